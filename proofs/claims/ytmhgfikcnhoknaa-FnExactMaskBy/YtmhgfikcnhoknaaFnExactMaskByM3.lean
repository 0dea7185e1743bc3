/-
  MaskS · MaskG · MaskL · MaskV · RunRow · BoxRow · RunL: texts of one claim, in one.
-/
import Derived.Test.YtmhgfikcnhoknaaFnExactMaskByM2
import Derived.Laws.StructEq
import Derived.Deep.DeepFit
import Derived.Deep.AppendLies
import Derived.Test.YtmhgfikcnhoknaaFnExactMaskByM1

/-
  The specification's masks: boxes that they may have, right ones, the bits of a square. (By masks.py.)
-/
namespace Go.Proofs.Ytmhgfikcnhoknaa
open Go.RowKit
set_option linter.unusedVariables false

theorem row5m {w1 : World} {b : Nat} {x0 x1 x2 x3 x4 : Value} {t : TypeId} (h : w1.heap[b]? = some (.cells #[x0, x1, x2, x3, x4] t (0, 0))) : w1.cell? ⟨b, 0, none⟩ = some x0 ∧ w1.cell? ⟨b, 1, none⟩ = some x1 ∧ w1.cell? ⟨b, 2, none⟩ = some x2 ∧ w1.cell? ⟨b, 3, none⟩ = some x3 ∧ w1.cell? ⟨b, 4, none⟩ = some x4 := by
  refine ⟨?_, ?_, ?_, ?_, ?_⟩ <;> simp [World.cell?, h]

theorem ret_i {a b : Int} (h : a = b) : Ending.returned (.int .i64 a) = .returned (.int .i64 b) := by rw [h]

set_option maxHeartbeats 4000000 in
set_option maxRecDepth 100000 in
theorem specL11Box_any (a b c d : Int) (w : World) :
    Calls Try.prog 40 #[.agg #[.int .i64 a, .int .i64 b, .int .i64 c, .int .i64 d]] w fun r w' => r = .returned (.bool (boxInB a b c d)) ∧ Below w.heap.size w w' := by
  have E0 := hide (specEmpty_any a b c d)
  have EA := hide (l01In_any a (-2000) 2000)
  have EB := hide (l01In_any b (-2000) 2000)
  have EC := hide (l01In_any c (-2000) 2000)
  have ED := hide (l01In_any d (-2000) 2000)
  have H : Hid ((!emptyB a b c d && (inB a (-2000) 2000 && (inB b (-2000) 2000 && (inB c (-2000) 2000 && (inB d (-2000) 2000 && (decide (c - a ≤ 60) && decide (d - b ≤ 60))))))) = boxInB a b c d) := rfl
  have w1 : Hid (inB a (-2000) 2000 = true → inB c (-2000) 2000 = true → IntKind.i64.wrap (c - a) = c - a) := fun h1 h2 => by
    rw [inB_true] at h1 h2; exact IntWalk.i64_in _ (by omega)
  have w2 : Hid (inB b (-2000) 2000 = true → inB d (-2000) 2000 = true → IntKind.i64.wrap (d - b) = d - b) := fun h1 h2 => by
    rw [inB_true] at h1 h2; exact IntWalk.i64_in _ (by omega)
  generalize emptyB a b c d = e0 at E0 H
  generalize inB a (-2000) 2000 = i1 at EA H w1
  generalize inB b (-2000) 2000 = i2 at EB H w2
  generalize inB c (-2000) 2000 = i3 at EC H w1
  generalize inB d (-2000) 2000 = i4 at ED H w2
  generalize boxInB a b c d = X at H ⊢
  go_enter Try.func40, Try.ntmps40
  go_upto_region 1 with fail
  have R := hide (new_row w (.cells #[.int .i64 a, .int .i64 b, .int .i64 c, .int .i64 d] 28))
  have HB := hide (al1_below w (.cells #[.int .i64 a, .int .i64 b, .int .i64 c, .int .i64 d] 28))
  obtain ⟨b1, hb1⟩ : ∃ b, Hid (b = w.heap.size) := ⟨_, rfl⟩
  rw [← unhide hb1] at R
  rw [← unhide hb1]
  generalize w.alloc (.cells #[.int .i64 a, .int .i64 b, .int .i64 c, .int .i64 d] 28) = W at R HB ⊢
  obtain ⟨r0, r1, r2, r3⟩ := row4 (unhide R)
  go_wp2_with fail
  go_fit (unhide E0 _)
  rintro r u1 ⟨rfl, hb⟩
  replace R := hide (row_next hb (unhide R))
  replace HB := hide (below_two (unhide HB) hb)
  clear hb r0 r1 r2 r3
  obtain ⟨r0, r1, r2, r3⟩ := row4 (unhide R)
  cases e0 with
  | true =>
    go_wp2_with fail
    go_ret
    exact ⟨ret_bool (unhide H), unhide HB⟩
  | false =>
    go_wp2_with fail
    go_fit (unhide EA _)
    rintro r u2 ⟨rfl, rfl⟩
    cases i1 with
    | false =>
      go_wp2_with fail
      go_ret
      exact ⟨ret_bool (unhide H), unhide HB⟩
    | true =>
      go_wp2_with fail
      go_fit (unhide EB _)
      rintro r u2 ⟨rfl, rfl⟩
      cases i2 with
      | false =>
        go_wp2_with fail
        go_ret
        exact ⟨ret_bool (unhide H), unhide HB⟩
      | true =>
        go_wp2_with fail
        go_fit (unhide EC _)
        rintro r u2 ⟨rfl, rfl⟩
        cases i3 with
        | false =>
          go_wp2_with fail
          go_ret
          exact ⟨ret_bool (unhide H), unhide HB⟩
        | true =>
          go_wp2_with fail
          go_fit (unhide ED _)
          rintro r u2 ⟨rfl, rfl⟩
          cases i4 with
          | false =>
            go_wp2_with fail
            go_ret
            exact ⟨ret_bool (unhide H), unhide HB⟩
          | true =>
            have w1' := unhide w1 (by trivial) (by trivial)
            have w2' := unhide w2 (by trivial) (by trivial)
            by_cases h1 : c - a ≤ 60
            · have hX : Hid ((decide (c - a ≤ 60) && decide (d - b ≤ 60)) = X) := unhide H
              rw [decide_eq_true h1] at hX
              go_wp2_with fail
              go_ret
              exact ⟨ret_bool (unhide hX), unhide HB⟩
            · have hX : Hid ((decide (c - a ≤ 60) && decide (d - b ≤ 60)) = X) := unhide H
              rw [decide_eq_false h1] at hX
              go_wp2_with fail
              go_ret
              exact ⟨ret_bool (unhide hX), unhide HB⟩

theorem mok_zero {a b c d : Int} {f : Nat → Int} : MOk a b c d 0 f ↔ a = 0 ∧ b = 0 ∧ c = 0 ∧ d = 0 :=
  ⟨fun h => by rcases h with ⟨_, h⟩ | ⟨h, _⟩; exact h; omega, fun h => .inl ⟨rfl, h⟩⟩
theorem mok_some {a b c d : Int} {n : Nat} {f : Nat → Int} (hn : n ≠ 0) : MOk a b c d n f ↔ boxInB a b c d = true ∧ n = sqN a b c d ∧ ∀ i, i < n → inB (f i) 0 15 = true :=
  ⟨fun h => by rcases h with ⟨h, _⟩ | ⟨_, h⟩; exact absurd h hn; exact h, fun h => .inr ⟨by omega, h⟩⟩
theorem bits_more {f : Nat → Int} {k : Nat} (h : ∀ j, j < k → inB (f j) 0 15 = true) (hk : inB (f k) 0 15 = true) : ∀ j, j < k + 1 → inB (f j) 0 15 = true := by
  intro j hj
  by_cases e : j = k
  · subst e; exact hk
  · exact h j (by omega)
theorem eqZero_yes (w : World) : (binOp .eql 28 (.agg #[.int .i64 0, .int .i64 0, .int .i64 0, .int .i64 0]) (.agg #[.int .i64 0, .int .i64 0, .int .i64 0, .int .i64 0])).run Try.prog w = .ok (.bool true) w := by kernel_rfl
theorem eqZero_d (w : World) (d : Int) (h : ¬ d = 0) : (binOp .eql 28 (.agg #[.int .i64 0, .int .i64 0, .int .i64 0, .int .i64 d]) (.agg #[.int .i64 0, .int .i64 0, .int .i64 0, .int .i64 0])).run Try.prog w = .ok (.bool false) w := by
  cases d with
  | ofNat n =>
    cases n with
    | zero => exact absurd rfl h
    | succ n => kernel_rfl
  | negSucc n => kernel_rfl
theorem eqZero_no (w : World) (a b c d : Int) (h : ¬ (a = 0 ∧ b = 0 ∧ c = 0 ∧ d = 0)) : (binOp .eql 28 (.agg #[.int .i64 a, .int .i64 b, .int .i64 c, .int .i64 d]) (.agg #[.int .i64 0, .int .i64 0, .int .i64 0, .int .i64 0])).run Try.prog w = .ok (.bool false) w := by
  by_cases ha : a = 0
  · subst ha
    by_cases hb : b = 0
    · subst hb
      by_cases hc : c = 0
      · subst hc
        exact eqZero_d w d (fun hd => h ⟨rfl, rfl, rfl, hd⟩)
      · cases c with
        | ofNat n =>
          cases n with
          | zero => exact absurd rfl hc
          | succ n => kernel_rfl
        | negSucc n => kernel_rfl
    · cases b with
      | ofNat n =>
        cases n with
        | zero => exact absurd rfl hb
        | succ n => kernel_rfl
      | negSucc n => kernel_rfl
  · cases a with
    | ofNat n =>
      cases n with
      | zero => exact absurd rfl ha
      | succ n => kernel_rfl
    | negSucc n => kernel_rfl

attribute [local go_sem ↓] eqZero_yes eqZero_no in
set_option maxHeartbeats 4000000 in
set_option maxRecDepth 100000 in
theorem specMaskOk_any (a b c d : Int) (f : Nat → Int) (ao : Option Addr) (n cp : Nat) (hn : n ≤ 1048576) (w : World) (P : ∀ i, i < n → IntAt w ao i (f i)) :
    Calls Try.prog 24 #[.agg #[.int .i64 a, .int .i64 b, .int .i64 c, .int .i64 d, .slice ao n cp]] w fun r w' => r = .returned (.bool (maskOkB a b c d n f)) ∧ Below w.heap.size w w' := by
  have EB := hide (specL11Box_any a b c d)
  replace P := hide P
  by_cases h0 : n = 0
  · subst h0
    by_cases hz : a = 0 ∧ b = 0 ∧ c = 0 ∧ d = 0
    · rw [maskOk_iff.2 (mok_zero.2 hz)]
      obtain ⟨rfl, rfl, rfl, rfl⟩ := hz
      go_enter Try.func24, Try.ntmps24
      go_wp2_with fail
      go_ret
      exact ⟨rfl, al1_below _ _⟩
    · rw [maskOk_no (fun h => hz (mok_zero.1 h))]
      go_enter Try.func24, Try.ntmps24
      go_wp2_with fail
      go_ret
      exact ⟨rfl, al1_below _ _⟩
  have h0i : ((n : Int) == 0) = false := beq_eq_false_iff_ne.2 (by omega)
  have hmo : Hid (MOk a b c d n f ↔ boxInB a b c d = true ∧ n = sqN a b c d ∧ ∀ i, i < n → inB (f i) 0 15 = true) := mok_some h0
  have hyes : Hid (MOk a b c d n f → maskOkB a b c d n f = true) := fun h => maskOk_iff.2 h
  have hno : Hid (¬ MOk a b c d n f → maskOkB a b c d n f = false) := fun h => maskOk_no h
  generalize maskOkB a b c d n f = X at hyes hno ⊢
  generalize MOk a b c d n f = M at hyes hno hmo
  have hsq : Hid (boxInB a b c d = true → (n = sqN a b c d ↔ (n : Int) = (c - a) * (d - b)) ∧ IntKind.i64.wrap (c - a) = c - a ∧ IntKind.i64.wrap (d - b) = d - b ∧ IntKind.i64.wrap ((c - a) * (d - b)) = (c - a) * (d - b)) := fun h => by
    have e := sqN_int h
    have e2 := (sqN_le h).1
    obtain ⟨_, _, _, _, _, _, _, _⟩ := boxIn_iff.1 h
    refine ⟨by rw [← e]; omega, IntWalk.i64_in _ (by omega), IntWalk.i64_in _ (by omega), IntWalk.i64_in _ (by rw [← e]; omega)⟩
  generalize sqN a b c d = sq at hmo hsq
  generalize boxInB a b c d = bi at EB hmo hsq
  go_enter Try.func24, Try.ntmps24
  go_upto_region 1 with fail
  have R := hide (new_row w (.cells #[.int .i64 a, .int .i64 b, .int .i64 c, .int .i64 d, .slice ao n cp] 30))
  have HB := hide (al1_below w (.cells #[.int .i64 a, .int .i64 b, .int .i64 c, .int .i64 d, .slice ao n cp] 30))
  obtain ⟨b1, hb1⟩ : ∃ b, Hid (b = w.heap.size) := ⟨_, rfl⟩
  rw [← unhide hb1] at R
  rw [← unhide hb1]
  generalize w.alloc (.cells #[.int .i64 a, .int .i64 b, .int .i64 c, .int .i64 d, .slice ao n cp] 30) = W at R HB ⊢
  obtain ⟨r0, r1, r2, r3, r4⟩ := row5m (unhide R)
  go_wp2_with fail
  go_fit (unhide EB _)
  rintro r u1 ⟨rfl, hb⟩
  replace R := hide (row_next hb (unhide R))
  replace HB := hide (below_two (unhide HB) hb)
  clear hb r0 r1 r2 r3 r4
  obtain ⟨r0, r1, r2, r3, r4⟩ := row5m (unhide R)
  cases bi with
  | false =>
    have hX := hide (unhide hno (fun h => by have := (unhide hmo).1 h; cases this.1))
    go_wp2_with fail
    go_ret
    exact ⟨ret_bool (unhide hX).symm, unhide HB⟩
  | true =>
    obtain ⟨hs1, w1, w2, w3⟩ := unhide hsq rfl
    replace hs1 := hide hs1
    clear hsq
    by_cases hq : (n : Int) = (c - a) * (d - b)
    · have hq1 := hide hq
      have hqb : ((n : Int) == (c - a) * (d - b)) = true := beq_iff_eq.2 hq
      rw [← hq] at w3
      go_upto_region 5 with fail
      go_wp2_with fail
      clear r0 r1 r2 r3 r4 w1 w2 w3 hqb hq
      go_loopw [3] (fun i u => ∃ k : Nat, k ≤ n ∧ i = .int .i64 k ∧ Hid (∀ j, j < k → inB (f j) 0 15 = true) ∧ Hid (Below w.heap.size w u) ∧ Hid (u.heap[b1]? = some (.cells #[.int .i64 a, .int .i64 b, .int .i64 c, .int .i64 d, .slice ao n cp] 30 (0, 0)))) (fun i _ => n - (intOf i).toNat)
      case atStart => exact ⟨0, Nat.zero_le _, rfl, fun j hj => absurd hj (by omega), HB, R⟩
      case round =>
        clear HB R
        obtain ⟨k, hk, rfl, HK, HB, R⟩ := hrel
        obtain ⟨r0, r1, r2, r3, r4⟩ := row5m (unhide R)
        by_cases hlt : k < n
        · obtain ⟨s0, o0, rfl, g0⟩ := (unhide P k hlt).next (unhide HB)
          have EI := hide (l01In_any (f k) 0 15)
          obtain ⟨z, hz⟩ : ∃ z, Hid (f k = z) := ⟨_, rfl⟩
          rw [unhide hz] at g0 EI
          have hki : (k : Int) < (n : Int) := by omega
          cases hi : inB z 0 15 with
          | false =>
            rw [hi] at EI
            have hX := hide (unhide hno (fun h => by have := ((unhide hmo).1 h).2.2 k hlt; rw [unhide hz, hi] at this; cases this))
            clear hi
            go_wp2_with fail
            go_fit (unhide EI _)
            rintro r u2 ⟨rfl, rfl⟩
            go_wp2_with fail
            go_ret
            exact ⟨ret_bool (unhide hX).symm, unhide HB⟩
          | true =>
            rw [hi] at EI
            have HK2 : Hid (∀ j, j < k + 1 → inB (f j) 0 15 = true) := bits_more (unhide HK) (by rw [unhide hz]; exact hi)
            clear hi
            go_wp2_with fail
            go_fit (unhide EI _)
            rintro r u2 ⟨rfl, rfl⟩
            go_wp2_with fail
            go_roundw
            case rel => exact ⟨k + 1, by omega, by go_num, HK2, HB, R⟩
            case measure => simp [intOf]; omega
        · have hke : k = n := by omega
          subst hke
          have hki : ¬ (k : Int) < (k : Int) := by omega
          have hX := hide (unhide hyes ((unhide hmo).2 ⟨by trivial, (unhide hs1).2 (unhide hq1), unhide HK⟩))
          go_wp2_with fail
          go_ret
          exact ⟨ret_bool (unhide hX).symm, unhide HB⟩
    · have hX := hide (unhide hno (fun h => hq ((unhide hs1).1 ((unhide hmo).1 h).2.1)))
      have hqb : ((n : Int) == (c - a) * (d - b)) = false := beq_eq_false_iff_ne.2 hq
      go_wp2_with fail
      go_ret
      exact ⟨ret_bool (unhide hX).symm, unhide HB⟩

set_option maxHeartbeats 4000000 in
set_option maxRecDepth 100000 in
theorem specL11Bits_any (a b c d : Int) (f : Nat → Int) (ao : Option Addr) (n cp : Nat) (hn : n ≤ 1048576) (x y : Int) (w : World) (P : ∀ i, i < n → IntAt w ao i (f i)) (hM : MOk a b c d n f) :
    Calls Try.prog 27 #[.agg #[.int .i64 a, .int .i64 b, .int .i64 c, .int .i64 d, .slice ao n cp], .int .i64 x, .int .i64 y] w fun r w' => r = .returned (.int .i64 (atI a b c d f x y)) ∧ Below w.heap.size w w' := by
  have EI := hide (specInBox_any a b c d x y)
  have hA : Hid (atI a b c d f x y = if inBoxB a b c d x y = true then f (placeI a b c x y).toNat else 0) := rfl
  have hin : Hid (inBoxB a b c d x y = true → boxInB a b c d = true ∧ n = sqN a b c d ∧ 0 ≤ placeI a b c x y ∧ placeI a b c x y < (n : Int) ∧ (a ≤ x ∧ x < c ∧ b ≤ y ∧ y < d)) := fun h => by
    have hi := h
    simp only [inBoxB, Bool.and_eq_true, decide_eq_true_eq] at hi
    rcases hM with ⟨_, rfl, rfl, rfl, rfl⟩ | ⟨_, h1, h2, _⟩
    · omega
    · obtain ⟨p1, p2⟩ := place_bd h1 h
      exact ⟨h1, h2, p1, by omega, hi⟩
  replace P := hide P
  clear hM
  generalize inBoxB a b c d x y = ib at EI hA hin
  generalize atI a b c d f x y = V at hA ⊢
  go_enter Try.func27, Try.ntmps27
  go_upto_region 2 with fail
  have R3 := hide (al2_0 w (.cells #[.int .i64 a, .int .i64 b, .int .i64 c, .int .i64 d, .slice ao n cp] 30) (.cells #[.int .i64 a, .int .i64 b, .int .i64 c, .int .i64 d] 28))
  have R7 := hide (al2_1 w (.cells #[.int .i64 a, .int .i64 b, .int .i64 c, .int .i64 d, .slice ao n cp] 30) (.cells #[.int .i64 a, .int .i64 b, .int .i64 c, .int .i64 d] 28))
  have HB := hide (al2_below w (.cells #[.int .i64 a, .int .i64 b, .int .i64 c, .int .i64 d, .slice ao n cp] 30) (.cells #[.int .i64 a, .int .i64 b, .int .i64 c, .int .i64 d] 28))
  generalize w.heap.size + 1 = b7 at R7 ⊢
  obtain ⟨b3, hb3⟩ : ∃ b, Hid (b = w.heap.size) := ⟨_, rfl⟩
  rw [← unhide hb3] at R3
  rw [← unhide hb3]
  generalize (w.alloc (.cells #[.int .i64 a, .int .i64 b, .int .i64 c, .int .i64 d, .slice ao n cp] 30)).alloc (.cells #[.int .i64 a, .int .i64 b, .int .i64 c, .int .i64 d] 28) = W at R3 R7 HB ⊢
  obtain ⟨q0, q1, q2, q3⟩ := row4 (unhide R7)
  go_wp2_with fail
  go_fit (unhide EI _)
  rintro r u1 ⟨rfl, hb⟩
  replace R3 := hide (row_next hb (unhide R3))
  replace R7 := hide (row_next hb (unhide R7))
  replace HB := hide (below_two (unhide HB) hb)
  clear hb q0 q1 q2 q3
  cases ib with
  | false =>
    have hV : Hid (0 = V) := by unfold Hid; rw [unhide hA]; simp
    go_wp2_with fail
    go_ret
    exact ⟨ret_i (unhide hV), unhide HB⟩
  | true =>
    obtain ⟨h1, h2, h3, h4, h5⟩ := unhide hin (by trivial)
    clear hin
    replace hA : Hid (V = f (placeI a b c x y).toNat) := by unfold Hid; rw [unhide hA]; simp
    obtain ⟨_, _, h6, h7, h8, h9, h10, h11⟩ := boxIn_iff.1 h1
    obtain ⟨q0, q1, q2, q3⟩ := row4 (unhide R7)
    obtain ⟨r0, r1, r2, r3, r4⟩ := row5m (unhide R3)
    obtain ⟨j, hj⟩ : ∃ j : Nat, placeI a b c x y = (j : Int) := ⟨(placeI a b c x y).toNat, by omega⟩
    rw [hj] at h3 h4 hA
    have hjn : j < n := by omega
    have e0 : ((j : Int)).toNat = j := by omega
    rw [e0] at hA
    unfold placeI at hj
    have m1 : 0 ≤ (y - b) * (c - a) ∧ (y - b) * (c - a) ≤ 3600 := by
      have := mul_bd (A := 60) (X := 60) (a := y - b) (x := c - a) (by omega) (by omega) (by omega) (by omega)
      have := Int.mul_nonneg (a := y - b) (b := c - a) (by omega) (by omega)
      omega
    have v1 : IntKind.i64.wrap (y - b) = y - b := IntWalk.i64_in _ (by omega)
    have v2 : IntKind.i64.wrap (c - a) = c - a := IntWalk.i64_in _ (by omega)
    have v3 : IntKind.i64.wrap ((y - b) * (c - a)) = (y - b) * (c - a) := IntWalk.i64_in _ (by omega)
    have v4 : IntKind.i64.wrap ((y - b) * (c - a) + x) = (y - b) * (c - a) + x := IntWalk.i64_in _ (by omega)
    have v5 : IntKind.i64.wrap ((y - b) * (c - a) + x - a) = (j : Int) := by rw [← hj]; exact IntWalk.i64_in _ (by omega)
    obtain ⟨s0, o0, rfl, g0⟩ := (unhide P j hjn).next (unhide HB)
    clear h1 h2 h5 h6 h7 h8 h9 h10 h11 m1 hj e0
    go_wp2_with fail
    go_ret
    exact ⟨ret_i (unhide hA).symm, unhide HB⟩

end Go.Proofs.Ytmhgfikcnhoknaa

/-
  A mask while its bits are appended; a mask that a call hands back.
-/
namespace Go.Proofs.Ytmhgfikcnhoknaa
open Go.RowKit
set_option linter.unusedVariables false

/-- A call hands back a mask of its own. -/
def MaskRes (w : World) (r : Ending) (w' : World) (a b c d : Int) (n : Nat) (f : Nat → Int) : Prop :=
  ∃ p cp, r = .returned (.agg #[.int .i64 a, .int .i64 b, .int .i64 c, .int .i64 d, .slice p n cp]) ∧ w'.ownsRow w.heap.size 3 1 (.slice p n cp) n ((listN f n).map Iv) ∧ Below w.heap.size w w'
theorem listN_congr {α : Type} {f g : Nat → α} {n : Nat} (h : ∀ i, i < n → f i = g i) : listN f n = listN g n := by
  unfold listN; exact List.map_congr_left (fun i hi => h i (List.mem_range.1 hi))
theorem MaskRes.congr {w w' : World} {r : Ending} {a b c d : Int} {n : Nat} {f g : Nat → Int} (h : MaskRes w r w' a b c d n f) (e : ∀ i, i < n → f i = g i) : MaskRes w r w' a b c d n g := by
  unfold MaskRes at h ⊢; rw [listN_congr e] at h; exact h
theorem frozen5 {w1 : World} {b : Nat} {x0 x1 x2 x3 x4 : Value} {t : TypeId} (h : w1.heap[b]? = some (.cells #[x0, x1, x2, x3, x4] t (0, 0))) : w1.frozen? ⟨b, 0, none⟩ = false ∧ w1.frozen? ⟨b, 1, none⟩ = false ∧ w1.frozen? ⟨b, 2, none⟩ = false ∧ w1.frozen? ⟨b, 3, none⟩ = false ∧ w1.frozen? ⟨b, 4, none⟩ = false := by
  refine ⟨?_, ?_, ?_, ?_, ?_⟩ <;> simp [World.frozen?, h]
theorem set5_4 {u : World} {b : Nat} {x0 x1 x2 x3 x4 v : Value} {t : TypeId} (h : u.heap[b]? = some (.cells #[x0, x1, x2, x3, x4] t (0, 0))) : (u.setCell ⟨b, 4, none⟩ v).heap[b]? = some (.cells #[x0, x1, x2, x3, v] t (0, 0)) := by
  simp [World.setCell, Array.getElem?_modify, h]
theorem below_put5 {B : Nat} {a w : World} (h : Below B a w) {b : Nat} (hb : B ≤ b) (x y z u v : Value) : Below B a (((((w.setCell ⟨b, 0, none⟩ x).setCell ⟨b, 1, none⟩ y).setCell ⟨b, 2, none⟩ z).setCell ⟨b, 3, none⟩ u).setCell ⟨b, 4, none⟩ v) := (below_put4 h hb x y z u).setCell (p := ⟨b, 4, none⟩) hb v
theorem own_put5 {w : World} {base e s n g : Nat} {v : Value} {xs : List Value} (h : w.ownsRow base e s v n xs) (hg : ∀ k, v.ownBlock = some k → k ≠ g) (x y z u t : Value) : (((((w.setCell ⟨g, 0, none⟩ x).setCell ⟨g, 1, none⟩ y).setCell ⟨g, 2, none⟩ z).setCell ⟨g, 3, none⟩ u).setCell ⟨g, 4, none⟩ t).ownsRow base e s v n xs :=
  own_setc_ne (own_setc_ne (own_setc_ne (own_setc_ne (own_setc_ne h hg) hg) hg) hg) hg

structure Grow (w u : World) (zb ob : Nat) (a b c d : Int) (f : Nat → Int) (k : Nat) (p : Option Addr) (cp : Nat) : Prop where
  zero : u.heap[zb]? = some (.cells #[.int .i64 0, .int .i64 0, .int .i64 0, .int .i64 0, .slice none 0 0] 30 (0, 0))
  row : u.heap[ob]? = some (.cells #[.int .i64 a, .int .i64 b, .int .i64 c, .int .i64 d, .slice p k cp] 30 (0, 0))
  own : u.ownsRow (ob + 1) 3 1 (.slice p k cp) k ((listN f k).map Iv)
  bel : Below w.heap.size w u
  size : ob + 1 ≤ u.heap.size
theorem Grow.next {w u u' : World} {zb ob : Nat} {a b c d : Int} {f : Nat → Int} {k : Nat} {p : Option Addr} {cp : Nat} (h : Grow w u zb ob a b c d f k p cp) (hb : Below u.heap.size u u') : Grow w u' zb ob a b c d f k p cp :=
  ⟨row_next hb h.zero, row_next hb h.row, own_below h.own hb, below_two h.bel hb, Nat.le_trans h.size hb.size⟩
theorem Grow.put {w u w6 : World} {zb ob : Nat} {a b c d : Int} {f : Nat → Int} {k : Nat} {p : Option Addr} {cp : Nat} (h : Grow w u zb ob a b c d f k p cp) (hw : w.heap.size ≤ ob) (hz : zb < ob) {p' : Option Addr} {cp' : Nat} {z : Int} (hzf : f k = z)
    (O6 : w6.ownsRow (ob + 1) 3 1 (.slice p' (k + 1) cp') (k + 1) ((listN f k).map Iv ++ [Iv z])) (D6 : Below (ob + 1) u w6) : Grow w (w6.setCell ⟨ob, 4, none⟩ (.slice p' (k + 1) cp')) zb ob a b c d f (k + 1) p' cp' := by
  refine ⟨setc_other (by omega) ((D6.block _ (by omega)).trans h.zero), set5_4 ((D6.block _ (Nat.lt_succ_self _)).trans h.row), ?_, ?_, ?_⟩
  · have := own_setc_ne (g := ob) (j := 4) (u := .slice p' (k + 1) cp') O6 (fun q hq => by have := (O6.lt q hq).1; omega)
    rw [listN_more, List.map_append, hzf]
    exact this
  · exact (h.bel.trans (D6.mono (by omega))).setCell (p := ⟨ob, 4, none⟩) hw _
  · rw [setc_size]; exact Nat.le_trans h.size D6.size
/-- It is handed back. -/
theorem Grow.res {w u : World} {zb ob : Nat} {a b c d : Int} {f : Nat → Int} {k : Nat} {p : Option Addr} {cp : Nat} (h : Grow w u zb ob a b c d f k p cp) (hw : w.heap.size ≤ zb) (hz : zb < ob) {v0 v1 v2 v3 v4 : Value} :
    MaskRes w (.returned (.agg #[.int .i64 a, .int .i64 b, .int .i64 c, .int .i64 d, .slice p k cp])) (((((u.setCell ⟨zb, 0, none⟩ v0).setCell ⟨zb, 1, none⟩ v1).setCell ⟨zb, 2, none⟩ v2).setCell ⟨zb, 3, none⟩ v3).setCell ⟨zb, 4, none⟩ v4) a b c d k f :=
  ⟨p, cp, rfl, own_low (own_put5 h.own (fun q hq => by have := (h.own.lt q hq).1; omega) _ _ _ _ _) (by omega), below_put5 h.bel hw _ _ _ _ _⟩
theorem mask_none {w w' : World} {f : Nat → Int} (hb : Below w.heap.size w w') : MaskRes w (.returned (.agg #[.int .i64 0, .int .i64 0, .int .i64 0, .int .i64 0, .slice none 0 0])) w' 0 0 0 0 0 f :=
  ⟨none, 0, rfl, World.ownsRow_nil _ _ _ _, hb⟩
/-- What stands in a box, or nothing. -/
def boxV (ok : Bool) (x : Int) : Int := if ok then x else 0
def boxK (ok : Bool) (n : Nat) : Nat := if ok then n else 0
/-- 'append' of one number onto an own row, as one step of a region that draws its order. -/
theorem step_append_i {P : Program} {ops : Array Oper} {o : Oper} {a : Act} {wr w5 : World} {K : Act → World → Prop} {Q : Exit → Act → World → Prop} {E : Prop} (hg : o.guard = none) (s x : Operand) (t : TypeId)
    (hop : o.op = .call { callee := .builtin .append, args := #[s, x], argTypes := #[t, t] })
    (base : Nat) (i : TypeInfo) (z0 : Value) (ht : P.underlying t = some (.slice 3)) (hi : P.info? 3 = some i) (hz : i.zero = some z0) (hsize : i.size = 1) (hby : i.bytes = 8) (hzs : z0.cells.size = 1)
    (v : Value) (n : Nat) (xs : List Value) (hs : a.eval s = v) (z : Int) (cx : Nat) (hx : a.eval x = .slice (some ⟨w5.heap.size, 0, none⟩) 1 cx)
    (hown : wr.ownsRow base 3 1 v n xs) (hn : n ≤ 1048576) (hbs : base ≤ wr.heap.size) (hd : Below wr.heap.size wr w5)
    (hK : ∀ v' w', w'.ownsRow base 3 1 v' (n + 1) (xs ++ [Iv z]) → Below base wr w' → K (a.put o.dst v') w') :
    if Region.wanted o (yielded ops a.tmps) = true then Oper.wp P o a (w5.alloc (.cells #[.int .i64 z] 3)) K Q else E := by
  refine step_append_any hg s x t 3 hop base i z0 1 8 ht hi hz hsize hby hzs (by decide) v n xs hs ((own_below hown hd).alloc _) ⟨w5.heap.size, 0, none⟩ 1 cx [Iv z] hx (by simp) (fun j u hu => World.news_of_block (al1_0 w5 _) j u (by simpa [Iv] using hu)) (fun u hu => by simp [Iv] at hu; subst hu; rfl) (by unfold maxLen; omega) (by omega) wr base (Nat.le_refl _) (by have := hd.size; simp; omega) (below_new _ (hd.mono hbs) hbs) ?_
  intro v' w' ho hb
  exact hK v' w' ho hb
end Go.Proofs.Ytmhgfikcnhoknaa

/-
  The laws' own words on masks: handed over, measured, held against each other, marked and held.
-/
namespace Go.Proofs.Ytmhgfikcnhoknaa
open Go.RowKit
set_option linter.unusedVariables false

/-- A list of numbers of one's own. -/
def IntsV (w : World) (base : Nat) (v : Value) (n : Nat) (f : Nat → Int) : Prop := ∃ xs, w.ownsRow base 3 1 v n xs ∧ IxAt xs f n
def MarkedI (w : World) (base : Nat) (v : Value) (n : Nat) : Prop := ∃ xs, w.ownsRow base 3 1 v n xs ∧ Ramp xs 1 n
theorem IntsV.next {w w' : World} {base n : Nat} {v : Value} {f : Nat → Int} (h : IntsV w base v n f) (hb : Below w.heap.size w w') : IntsV w' base v n f := let ⟨xs, h1, h2⟩ := h; ⟨xs, own_below h1 hb, h2⟩
theorem MarkedI.next {w w' : World} {base n : Nat} {v : Value} (h : MarkedI w base v n) (hb : Below w.heap.size w w') : MarkedI w' base v n := let ⟨xs, h1, h2⟩ := h; ⟨xs, own_below h1 hb, h2⟩
theorem IntsV.ints {w : World} {base n c : Nat} {a : Option Addr} {f : Nat → Int} (h : IntsV w base (.slice a n c) n f) : ∀ i, i < n → IntAt w a i (f i) := let ⟨_, h1, h2⟩ := h; own_ix h1 h2
theorem IntsV.cap {w : World} {base n c : Nat} {a : Option Addr} {f : Nat → Int} (h : IntsV w base (.slice a n c) n f) : n ≤ c := by
  obtain ⟨xs, ⟨_, h | ⟨g, cap, cur, hv, _, _, hc, _⟩⟩, _⟩ := h
  · cases h.1; omega
  · cases hv; exact hc
theorem IntsV.lt {w : World} {base n : Nat} {v : Value} {f : Nat → Int} (h : IntsV w base v n f) : ∀ k, v.ownBlock = some k → base ≤ k ∧ k < w.heap.size := let ⟨_, h1, _⟩ := h; h1.lt
theorem IntsV.low {w : World} {base base' n : Nat} {v : Value} {f : Nat → Int} (h : IntsV w base v n f) (hb : base' ≤ base) : IntsV w base' v n f := let ⟨xs, h1, h2⟩ := h; ⟨xs, own_low h1 hb, h2⟩
theorem IntsV.kept {w w' : World} {base n : Nat} {v : Value} {f : Nat → Int} {row : Option Nat} (h : IntsV w base v n f) (hg : w.grownBy w' row) (ap : v.ownBlock = none ∨ v.ownBlock ≠ row) : IntsV w' base v n f := let ⟨xs, h1, h2⟩ := h; ⟨xs, h1.kept hg ap, h2⟩
theorem MaskRes.open {w w' : World} {r : Ending} {a b c d : Int} {n : Nat} {f : Nat → Int} (h : MaskRes w r w' a b c d n f) : ∃ p cp, r = .returned (.agg #[.int .i64 a, .int .i64 b, .int .i64 c, .int .i64 d, .slice p n cp]) ∧ IntsV w' w.heap.size (.slice p n cp) n f ∧ Below w.heap.size w w' :=
  let ⟨p, cp, h1, h2, h3⟩ := h; ⟨p, cp, h1, ⟨_, h2, ix_listN f n⟩, h3⟩
/-- What an earlier call owns and what a later one owns lie apart. -/
theorem IntsV.far {w1 w2 : World} {b0 B n m : Nat} {u v : Value} {f g : Nat → Int} (h0 : IntsV w1 b0 u n f) (h1 : IntsV w2 B v m g) (hB : w1.heap.size ≤ B) : u.ownBlock = none ∨ u.ownBlock ≠ v.ownBlock :=
  let ⟨_, o0, _⟩ := h0; let ⟨_, o1, _⟩ := h1; far_apart o0 o1 hB

set_option maxHeartbeats 1000000 in
theorem szMask_any (a b c d : Int) (ao : Option Addr) (n cap : Nat) (z : Int) (hz : 0 ≤ z ∧ z ≤ 1048576) (hm : n ≤ maxLen) (w : World) :
    Calls Try.prog 6 #[.agg #[.int .i64 a, .int .i64 b, .int .i64 c, .int .i64 d, .slice ao n cap], .int .i64 z] w fun r w' => r = .returned (.int .i64 (if z < n then -1 else z - n)) ∧ Below w.heap.size w w' := by
  have E := hide (szIntS_any ao n cap z hz hm)
  by_cases hlt : z < n
  · rw [if_pos hlt] at E ⊢
    go_enter Try.func6, Try.ntmps6
    go_wp2_with fail
    go_fit (unhide E _)
    rintro r w1 ⟨rfl, rfl⟩
    go_wp2_with fail
    go_ret
    exact ⟨rfl, al1_below _ _⟩
  · rw [if_neg hlt] at E ⊢
    have h0 : ¬ z - (n : Int) < 0 := by omega
    go_enter Try.func6, Try.ntmps6
    go_wp2_with fail
    go_fit (unhide E _)
    rintro r w1 ⟨rfl, rfl⟩
    go_wp2_with fail
    go_ret
    exact ⟨rfl, al1_below _ _⟩

theorem put5_4row {u : World} {b : Nat} {x0 x1 x2 x3 x4 y0 y1 y2 y3 : Value} {t : TypeId} (h : u.heap[b]? = some (.cells #[x0, x1, x2, x3, x4] t (0, 0))) : ((((u.setCell ⟨b, 0, none⟩ y0).setCell ⟨b, 1, none⟩ y1).setCell ⟨b, 2, none⟩ y2).setCell ⟨b, 3, none⟩ y3).heap[b]? = some (.cells #[y0, y1, y2, y3, x4] t (0, 0)) := by
  simp [World.setCell, Array.getElem?_modify, h]

set_option maxHeartbeats 4000000 in
set_option maxRecDepth 100000 in
theorem toMask_any (a b c d : Int) (f : Nat → Int) (ao : Option Addr) (n cap : Nat) (hn : n ≤ 1048576) (w : World) (P : ∀ i, i < n → IntAt w ao i (f i)) :
    Calls Try.prog 8 #[.agg #[.int .i64 a, .int .i64 b, .int .i64 c, .int .i64 d, .slice ao n cap]] w fun r w' => ∃ s, r = .returned (.agg #[.int .i64 a, .int .i64 b, .int .i64 c, .int .i64 d, .slice (some ⟨s, 0, none⟩) n n]) ∧ IntsV w' w.heap.size (.slice (some ⟨s, 0, none⟩) n n) n f ∧ Below w.heap.size w w' := by
  have E1 := hide (fun u => toIntS_own f ao n cap hn u)
  have E0 := hide (toBox_any a b c d)
  replace P := hide P
  go_enter Try.func8, Try.ntmps8
  go_upto_region 2 with fail
  have R0 := hide (al3_0 w (.cells #[.int .i64 a, .int .i64 b, .int .i64 c, .int .i64 d, .slice ao n cap] 26) (.cells #[.int .i64 0, .int .i64 0, .int .i64 0, .int .i64 0, .slice none 0 0] 30) (.cells #[.int .i64 0, .int .i64 0, .int .i64 0, .int .i64 0, .slice none 0 0] 30))
  have R1 := hide (al3_1 w (.cells #[.int .i64 a, .int .i64 b, .int .i64 c, .int .i64 d, .slice ao n cap] 26) (.cells #[.int .i64 0, .int .i64 0, .int .i64 0, .int .i64 0, .slice none 0 0] 30) (.cells #[.int .i64 0, .int .i64 0, .int .i64 0, .int .i64 0, .slice none 0 0] 30))
  have R2 := hide (al3_2 w (.cells #[.int .i64 a, .int .i64 b, .int .i64 c, .int .i64 d, .slice ao n cap] 26) (.cells #[.int .i64 0, .int .i64 0, .int .i64 0, .int .i64 0, .slice none 0 0] 30) (.cells #[.int .i64 0, .int .i64 0, .int .i64 0, .int .i64 0, .slice none 0 0] 30))
  have HB := hide (al3_below w (.cells #[.int .i64 a, .int .i64 b, .int .i64 c, .int .i64 d, .slice ao n cap] 26) (.cells #[.int .i64 0, .int .i64 0, .int .i64 0, .int .i64 0, .slice none 0 0] 30) (.cells #[.int .i64 0, .int .i64 0, .int .i64 0, .int .i64 0, .slice none 0 0] 30))
  obtain ⟨b2, hb2⟩ : ∃ b, Hid (b = w.heap.size + 1 + 1) := ⟨_, rfl⟩
  obtain ⟨b1, hb1⟩ : ∃ b, Hid (b = w.heap.size + 1) := ⟨_, rfl⟩
  obtain ⟨b0, hb0⟩ : ∃ b, Hid (b = w.heap.size) := ⟨_, rfl⟩
  rw [← unhide hb2] at R2
  rw [← unhide hb1] at R1
  rw [← unhide hb0] at R0
  rw [← unhide hb2, ← unhide hb1, ← unhide hb0]
  have hne : Hid (b0 ≠ b2 ∧ b1 ≠ b2 ∧ w.heap.size ≤ b2 ∧ w.heap.size ≤ b1) := by unfold Hid; rw [unhide hb2, unhide hb1, unhide hb0]; omega
  generalize ((w.alloc (.cells #[.int .i64 a, .int .i64 b, .int .i64 c, .int .i64 d, .slice ao n cap] 26)).alloc (.cells #[.int .i64 0, .int .i64 0, .int .i64 0, .int .i64 0, .slice none 0 0] 30)).alloc (.cells #[.int .i64 0, .int .i64 0, .int .i64 0, .int .i64 0, .slice none 0 0] 30) = W at R0 R1 R2 HB ⊢
  obtain ⟨q0, q1, q2, q3, q4⟩ := row5m (unhide R0)
  go_wp2_with fail
  go_fit (unhide E0 _)
  rintro r w1 ⟨rfl, hb⟩
  replace R0 := hide (row_next hb (unhide R0))
  replace R1 := hide (row_next hb (unhide R1))
  replace R2 := hide (row_next hb (unhide R2))
  replace HB := hide (below_two (unhide HB) hb)
  clear hb q0 q1 q2 q3 q4
  obtain ⟨c0, c1, c2, c3, c4⟩ := row5m (unhide R2)
  obtain ⟨f0, f1, f2, f3, f4⟩ := frozen5 (unhide R2)
  go_upto_region 3 with fail
  clear c0 c1 c2 c3 c4 f0 f1 f2 f3 f4
  replace R0 := hide (put4_other (b := b2) (x := .int .i64 a) (y := .int .i64 b) (z := .int .i64 c) (t := .int .i64 d) (unhide hne).1 (unhide R0))
  replace R1 := hide (put4_other (b := b2) (x := .int .i64 a) (y := .int .i64 b) (z := .int .i64 c) (t := .int .i64 d) (unhide hne).2.1 (unhide R1))
  replace R2 := hide (put5_4row (y0 := .int .i64 a) (y1 := .int .i64 b) (y2 := .int .i64 c) (y3 := .int .i64 d) (unhide R2))
  replace HB := hide (below_put4 (unhide HB) (unhide hne).2.2.1 (.int .i64 a) (.int .i64 b) (.int .i64 c) (.int .i64 d))
  generalize (((w1.setCell ⟨b2, 0, none⟩ (.int .i64 a)).setCell ⟨b2, 1, none⟩ (.int .i64 b)).setCell ⟨b2, 2, none⟩ (.int .i64 c)).setCell ⟨b2, 3, none⟩ (.int .i64 d) = W2 at R0 R1 R2 HB ⊢
  obtain ⟨q0, q1, q2, q3, q4⟩ := row5m (unhide R0)
  have E2 := hide (unhide E1 W2 (fun i hi => (unhide P i hi).next (unhide HB)))
  go_wp2_with fail
  go_fit (unhide E2)
  rintro r w3 ⟨rfl, ⟨xs, o1, x1⟩, hb⟩
  have l2 := hide (show b2 < W2.heap.size from heap_lt (unhide R2))
  have l1 := hide (show b1 < W2.heap.size from heap_lt (unhide R1))
  have lw := hide (show w.heap.size ≤ W2.heap.size from (unhide HB).size)
  replace R1 := hide (row_next hb (unhide R1))
  replace R2 := hide (row_next hb (unhide R2))
  replace HB := hide (below_two (unhide HB) hb)
  clear hb q0 q1 q2 q3 q4 R0
  generalize W2.heap.size = s at o1 l1 l2 lw ⊢
  replace o1 := hide o1
  replace x1 := hide x1
  obtain ⟨c0, c1, c2, c3, c4⟩ := row5m (unhide R2)
  obtain ⟨f0, f1, f2, f3, f4⟩ := frozen5 (unhide R2)
  obtain ⟨d0, d1, d2, d3, d4⟩ := row5m (set5_4 (v := .slice (some ⟨s, 0, none⟩) n n) (unhide R2))
  obtain ⟨g0, g1, g2, g3, g4⟩ := frozen5 (setc_other (b := b2) (j := 4) (v := .slice (some ⟨s, 0, none⟩) n n) (unhide hne).2.1 (unhide R1))
  obtain ⟨k0, k1, k2, k3, k4⟩ := row5m (setc_other (b := b2) (j := 4) (v := .slice (some ⟨s, 0, none⟩) n n) (unhide hne).2.1 (unhide R1))
  go_wp2_with fail
  refine bodyPost_ret (v := .agg #[.int .i64 a, .int .i64 b, .int .i64 c, .int .i64 d, .slice (some ⟨s, 0, none⟩) n n]) (by simp [results, Try.results8, go_sem, k0, k1, k2, k3, k4]) rfl ⟨s, rfl, ⟨xs, ?_, unhide x1⟩, ?_⟩
  · exact own_low (own_put5 (own_setc_ne (unhide o1) (fun k hk => by have := ((unhide o1).lt k hk).1; have := unhide l2; omega)) (fun k hk => by have := ((unhide o1).lt k hk).1; have := unhide l1; omega) _ _ _ _ _) (unhide lw)
  · exact below_put5 ((unhide HB).setCell (p := ⟨b2, 4, none⟩) (unhide hne).2.2.1 _) (unhide hne).2.2.2 _ _ _ _ _

set_option maxHeartbeats 2000000 in
theorem eqMask_same (a b c d : Int) (f : Nat → Int) (ao bo : Option Addr) (n cap cap' : Nat) (hn : n ≤ 1048576) (w : World) (P : ∀ i, i < n → IntAt w ao i (f i)) (P' : ∀ i, i < n → IntAt w bo i (f i)) :
    Calls Try.prog 10 #[.agg #[.int .i64 a, .int .i64 b, .int .i64 c, .int .i64 d, .slice ao n cap], .agg #[.int .i64 a, .int .i64 b, .int .i64 c, .int .i64 d, .slice bo n cap']] w fun r w' => r = .returned (.bool true) ∧ Below w.heap.size w w' := by
  have E0 := hide (eqBox_same a b c d)
  have E1 := hide (fun u => eqIntS_arg f ao bo n cap cap' hn u)
  replace P := hide P
  replace P' := hide P'
  go_enter Try.func10, Try.ntmps10
  go_upto_region 1 with fail
  have R1 := hide (al2_0 w (.cells #[.int .i64 a, .int .i64 b, .int .i64 c, .int .i64 d, .slice ao n cap] 30) (.cells #[.int .i64 a, .int .i64 b, .int .i64 c, .int .i64 d, .slice bo n cap'] 30))
  have R2 := hide (al2_1 w (.cells #[.int .i64 a, .int .i64 b, .int .i64 c, .int .i64 d, .slice ao n cap] 30) (.cells #[.int .i64 a, .int .i64 b, .int .i64 c, .int .i64 d, .slice bo n cap'] 30))
  have HB := hide (al2_below w (.cells #[.int .i64 a, .int .i64 b, .int .i64 c, .int .i64 d, .slice ao n cap] 30) (.cells #[.int .i64 a, .int .i64 b, .int .i64 c, .int .i64 d, .slice bo n cap'] 30))
  generalize (w.alloc (.cells #[.int .i64 a, .int .i64 b, .int .i64 c, .int .i64 d, .slice ao n cap] 30)).alloc (.cells #[.int .i64 a, .int .i64 b, .int .i64 c, .int .i64 d, .slice bo n cap'] 30) = W at R1 R2 HB ⊢
  obtain ⟨q0, q1, q2, q3, q4⟩ := row5m (unhide R1)
  obtain ⟨r0, r1, r2, r3, r4⟩ := row5m (unhide R2)
  go_wp2_with fail
  go_fit (unhide E0 _)
  rintro r w1 ⟨rfl, hb⟩
  replace R1 := hide (row_next hb (unhide R1))
  replace R2 := hide (row_next hb (unhide R2))
  replace HB := hide (below_two (unhide HB) hb)
  clear hb q0 q1 q2 q3 q4 r0 r1 r2 r3 r4
  obtain ⟨q0, q1, q2, q3, q4⟩ := row5m (unhide R1)
  obtain ⟨r0, r1, r2, r3, r4⟩ := row5m (unhide R2)
  have E2 := hide (unhide E1 w1 (fun i hi => (unhide P i hi).next (unhide HB)) (fun i hi => (unhide P' i hi).next (unhide HB)))
  go_wp2_with fail
  go_fit (unhide E2)
  rintro r w2 ⟨rfl, hb⟩
  replace HB := hide (below_two (unhide HB) hb)
  clear hb
  go_wp2_with fail
  go_ret
  exact ⟨rfl, unhide HB⟩

set_option maxHeartbeats 1000000 in
theorem markMask_any (a b c d : Int) (v : Value) (base n : Nat) (xs : List Value) (k : Nat) (hk : k ≤ 10000000) (hn : n ≤ 1048576) (w : World) (h : w.ownsRow base 3 1 v n xs) :
    Calls Try.prog 11 #[.agg #[.int .i64 a, .int .i64 b, .int .i64 c, .int .i64 d, v], .int .i64 k] w fun r w' => r = .returned (.int .i64 ((k + n : Nat) : Int)) ∧ (∃ ys, w'.ownsRow base 3 1 v n ys ∧ Ramp ys k n) ∧ w.grownBy w' v.ownBlock := by
  have E1 := hide (fun u zs (hu : u.ownsRow base 3 1 v n zs) => markIntS_any v base n k zs hk hn u hu)
  obtain ⟨p, cap, rfl⟩ := own_form h
  have H := hide h
  clear h
  generalize ((k + n : Nat) : Int) = q at E1 ⊢
  go_enter Try.func11, Try.ntmps11
  go_wp2_with fail
  have G := hide (show w.grownBy (w.alloc (.cells #[.int .i64 a, .int .i64 b, .int .i64 c, .int .i64 d, .slice p n cap] 30)) (Value.slice p n cap).ownBlock from grown_of_below (below_new _ (Below.refl _ _) (Nat.le_refl _)) _)
  go_fit (unhide E1 _ _ (own_below (unhide H) (al1_below w (.cells #[.int .i64 a, .int .i64 b, .int .i64 c, .int .i64 d, .slice p n cap] 30))))
  rintro r w1 ⟨rfl, ⟨ys, o1, r1⟩, g1⟩
  replace G := hide (grown_trans (unhide G) g1)
  replace o1 := hide o1
  replace r1 := hide r1
  clear g1
  go_wp2_with fail
  go_ret
  exact ⟨rfl, ⟨ys, unhide o1, unhide r1⟩, unhide G⟩

set_option maxHeartbeats 1000000 in
theorem heldMask_yes (a b c d : Int) (v : Value) (base n : Nat) (ys : List Value) (hn : n ≤ 1048576) (w : World) (h : w.ownsRow base 3 1 v n ys) (hr : Ramp ys 1 n) :
    Calls Try.prog 12 #[.agg #[.int .i64 a, .int .i64 b, .int .i64 c, .int .i64 d, v], .int .i64 1] w fun r w' => r = .returned (.int .i64 ((1 + n : Nat) : Int)) ∧ Below w.heap.size w w' := by
  have E1 := hide (fun u (hu : u.ownsRow base 3 1 v n ys) => heldIntS_yes v base n 1 ys (by omega) hn u hu hr)
  obtain ⟨p, cap, rfl⟩ := own_form h
  have H := hide h
  clear h hr
  have hp : ¬ (((1 + n : Nat) : Int) < 0) := by omega
  generalize ((1 + n : Nat) : Int) = q at E1 hp ⊢
  go_enter Try.func12, Try.ntmps12
  go_wp2_with fail
  go_fit (unhide E1 _ (own_below (unhide H) (al1_below _ _)))
  rintro r w1 ⟨rfl, rfl⟩
  go_wp2_with fail
  go_ret
  exact ⟨rfl, al1_below _ _⟩
end Go.Proofs.Ytmhgfikcnhoknaa

/-
  Lists of numbers that calls own, while others are marked. (By meetlaw.py.)
-/
namespace Go.Proofs.Ytmhgfikcnhoknaa
open Go.RowKit
set_option linter.unusedVariables false

theorem apart_bd {u v : Value} {a b c d : Nat} (h1 : ∀ k, u.ownBlock = some k → a ≤ k ∧ k < b) (h2 : ∀ k, v.ownBlock = some k → c ≤ k ∧ k < d) (h : b ≤ c ∨ d ≤ a) : u.ownBlock = none ∨ u.ownBlock ≠ v.ownBlock := by
  cases hu : u.ownBlock with
  | none => exact .inl rfl
  | some k =>
    refine .inr (fun e => ?_)
    have := h1 k hu
    have := h2 k e.symm
    omega
theorem carry5 {w w1 : World} {b : Nat} (x0 x1 x2 x3 x4 : Value) (t : TypeId) (hb : Below w.heap.size w w1) (h : w.heap[b]? = some (.cells #[x0, x1, x2, x3, x4] t (0, 0))) :
    w1.cell? ⟨b, 0, none⟩ = some x0 ∧ w1.cell? ⟨b, 1, none⟩ = some x1 ∧ w1.cell? ⟨b, 2, none⟩ = some x2 ∧ w1.cell? ⟨b, 3, none⟩ = some x3 ∧ w1.cell? ⟨b, 4, none⟩ = some x4 ∧ w1.frozen? ⟨b, 0, none⟩ = false ∧ w1.frozen? ⟨b, 1, none⟩ = false ∧ w1.frozen? ⟨b, 2, none⟩ = false ∧ w1.frozen? ⟨b, 3, none⟩ = false ∧ w1.frozen? ⟨b, 4, none⟩ = false ∧ w1.heap[b]? = some (.cells #[x0, x1, x2, x3, x4] t (0, 0)) ∧ b < w1.heap.size := by
  have h1 := row_next hb h
  obtain ⟨c0, c1, c2, c3, c4⟩ := row5m h1
  obtain ⟨f0, f1, f2, f3, f4⟩ := frozen5 h1
  exact ⟨c0, c1, c2, c3, c4, f0, f1, f2, f3, f4, h1, heap_lt h1⟩
theorem put5_row {u : World} {b : Nat} {x0 x1 x2 x3 x4 y0 y1 y2 y3 y4 : Value} {t : TypeId} (h : u.heap[b]? = some (.cells #[x0, x1, x2, x3, x4] t (0, 0))) : (((((u.setCell ⟨b, 0, none⟩ y0).setCell ⟨b, 1, none⟩ y1).setCell ⟨b, 2, none⟩ y2).setCell ⟨b, 3, none⟩ y3).setCell ⟨b, 4, none⟩ y4).heap[b]? = some (.cells #[y0, y1, y2, y3, y4] t (0, 0)) := by
  simp [World.setCell, Array.getElem?_modify, h]
theorem IntsV.put5 {w : World} {base n q : Nat} {v : Value} {f : Nat → Int} (h : IntsV w base v n f) (hq : some q ≠ v.ownBlock) {x y z u t : Value} : IntsV (((((w.setCell ⟨q, 0, none⟩ x).setCell ⟨q, 1, none⟩ y).setCell ⟨q, 2, none⟩ z).setCell ⟨q, 3, none⟩ u).setCell ⟨q, 4, none⟩ t) base v n f :=
  let ⟨xs, h1, h2⟩ := h; ⟨xs, own_put5 h1 (fun k hk e => hq (by rw [hk, e])) x y z u t, h2⟩
theorem IntsV.notOld {w : World} {base n q : Nat} {v : Value} {f : Nat → Int} (h : IntsV w base v n f) (hq : q < base) : some q ≠ v.ownBlock := fun e => absurd (h.lt _ e.symm).1 (by omega)
theorem IntsV.notNew {w : World} {base n q : Nat} {v : Value} {f : Nat → Int} (h : IntsV w base v n f) (hq : w.heap.size ≤ q) : some q ≠ v.ownBlock := fun e => absurd (h.lt _ e.symm).2 (by omega)
theorem MarkedI.kept {w w' : World} {base n : Nat} {v : Value} {row : Option Nat} (h : MarkedI w base v n) (hg : w.grownBy w' row) (ap : v.ownBlock = none ∨ v.ownBlock ≠ row) : MarkedI w' base v n := let ⟨xs, h1, h2⟩ := h; ⟨xs, h1.kept hg ap, h2⟩
/-- Marked from k on. -/
def MarkedK (w : World) (base : Nat) (v : Value) (n k : Nat) : Prop := ∃ xs, w.ownsRow base 3 1 v n xs ∧ Ramp xs k n
theorem MarkedK.next {w w' : World} {base n k : Nat} {v : Value} (h : MarkedK w base v n k) (hb : Below w.heap.size w w') : MarkedK w' base v n k := let ⟨xs, h1, h2⟩ := h; ⟨xs, own_below h1 hb, h2⟩
theorem MarkedK.kept {w w' : World} {base n k : Nat} {v : Value} {row : Option Nat} (h : MarkedK w base v n k) (hg : w.grownBy w' row) (ap : v.ownBlock = none ∨ v.ownBlock ≠ row) : MarkedK w' base v n k := let ⟨xs, h1, h2⟩ := h; ⟨xs, h1.kept hg ap, h2⟩
theorem markInts_v (a b c d : Int) (v : Value) (base n k : Nat) (f : Nat → Int) (hk : k ≤ 10000000) (hn : n ≤ 1048576) (w : World) (h : IntsV w base v n f) :
    Calls Try.prog 11 #[.agg #[.int .i64 a, .int .i64 b, .int .i64 c, .int .i64 d, v], .int .i64 k] w fun r w' => r = .returned (.int .i64 ((k + n : Nat) : Int)) ∧ MarkedK w' base v n k ∧ w.grownBy w' v.ownBlock :=
  let ⟨xs, h1, _⟩ := h; markMask_any a b c d v base n xs k hk hn w h1
theorem heldInts_v (a b c d : Int) (v : Value) (base n : Nat) (hn : n ≤ 1048576) (w : World) (h : MarkedI w base v n) :
    Calls Try.prog 12 #[.agg #[.int .i64 a, .int .i64 b, .int .i64 c, .int .i64 d, v], .int .i64 1] w fun r w' => r = .returned (.int .i64 ((1 + n : Nat) : Int)) ∧ Below w.heap.size w w' :=
  let ⟨xs, h1, h2⟩ := h; heldMask_yes a b c d v base n xs hn w h1 h2
end Go.Proofs.Ytmhgfikcnhoknaa

/-
  Rows of runs: how they lie in memory, and how one more is laid behind them.
-/
namespace Go.Proofs.Ytmhgfikcnhoknaa
open Go.RowKit

theorem infoRun : (Try.prog.info? 60).map (fun i => (i.zero, i.size, i.bytes)) = some (some (.agg #[.int .i64 0, .int .i64 0, .int .i64 0, .int .i64 0]), 4, 32) := by kernel_rfl

/-- A run: Y, X0, X1, Bits. -/
def rnV (p : B4) : List Value := [.int .i64 p.x0, .int .i64 p.y0, .int .i64 p.x1, .int .i64 p.y1]
def rsV (l : List B4) : List Value := l.flatMap rnV
theorem rsV_len (l : List B4) : (rsV l).length = l.length * 4 := by
  induction l with
  | nil => rfl
  | cons p l ih => change (rnV p ++ rsV l).length = _; rw [List.length_append, ih]; simp [rnV]; omega
theorem rsV_app (l m : List B4) : rsV (l ++ m) = rsV l ++ rsV m := by unfold rsV; rw [List.flatMap_append]
theorem rsV_get (l : List B4) (i : Nat) (h : i < l.length) : (rsV l)[i * 4]? = some (.int .i64 l[i].x0) ∧ (rsV l)[i * 4 + 1]? = some (.int .i64 l[i].y0) ∧ (rsV l)[i * 4 + 2]? = some (.int .i64 l[i].x1) ∧ (rsV l)[i * 4 + 3]? = some (.int .i64 l[i].y1) := by
  induction l generalizing i with
  | nil => exact absurd h (by simp)
  | cons p l ih =>
    change (rnV p ++ rsV l)[i * 4]? = _ ∧ (rnV p ++ rsV l)[i * 4 + 1]? = _ ∧ (rnV p ++ rsV l)[i * 4 + 2]? = _ ∧ (rnV p ++ rsV l)[i * 4 + 3]? = _
    cases i with
    | zero => exact ⟨rfl, rfl, rfl, rfl⟩
    | succ i =>
      have hi : i < l.length := by simpa using h
      obtain ⟨h1, h2, h3, h4⟩ := ih i hi
      rw [List.getElem?_append_right (by simp [rnV]; omega), List.getElem?_append_right (by simp [rnV]; omega), List.getElem?_append_right (by simp [rnV]; omega), List.getElem?_append_right (by simp [rnV]; omega)]
      refine ⟨?_, ?_, ?_, ?_⟩
      · rw [show (i + 1) * 4 - (rnV p).length = i * 4 by simp [rnV]; omega]; exact h1
      · rw [show (i + 1) * 4 + 1 - (rnV p).length = i * 4 + 1 by simp [rnV]; omega]; exact h2
      · rw [show (i + 1) * 4 + 2 - (rnV p).length = i * 4 + 2 by simp [rnV]; omega]; exact h3
      · rw [show (i + 1) * 4 + 3 - (rnV p).length = i * 4 + 3 by simp [rnV]; omega]; exact h4
/-- Number i of a row of runs, wherever it begins. -/
def RnAt (w : World) (a : Option Addr) (i : Nat) (p : B4) : Prop :=
  ∃ s o, a = some ⟨s, o, none⟩ ∧ w.cell? ⟨s, o + i * 4, none⟩ = some (.int .i64 p.x0) ∧ w.cell? ⟨s, o + i * 4 + 1, none⟩ = some (.int .i64 p.y0) ∧ w.cell? ⟨s, o + i * 4 + 2, none⟩ = some (.int .i64 p.x1) ∧ w.cell? ⟨s, o + i * 4 + 3, none⟩ = some (.int .i64 p.y1)
theorem RnAt.next {w w1 : World} {a : Option Addr} {i : Nat} {p : B4} (h : RnAt w a i p) (hb : Below w.heap.size w w1) : RnAt w1 a i p :=
  let ⟨s, o, h1, h2, h3, h4, h5⟩ := h; ⟨s, o, h1, kc hb h2, kc hb h3, kc hb h4, kc hb h5⟩
theorem own_rn {w : World} {base t : Nat} {v : Value} {l : List B4} (h : w.ownsRow base t 4 v l.length (rsV l)) :
    ∃ a cap, v = .slice a l.length cap ∧ l.length ≤ cap ∧ ∀ i (hi : i < l.length), RnAt w a i l[i] := by
  rcases h.2 with ⟨rfl, h0⟩ | ⟨g, cap, cur, rfl, h3, h4, h5, h6, _⟩
  · exact ⟨none, 0, by rw [h0], by omega, fun i hi => absurd hi (by omega)⟩
  · refine ⟨some ⟨g, 0, none⟩, cap, rfl, h5, fun i hi => ⟨g, 0, rfl, ?_, ?_, ?_, ?_⟩⟩
    · rw [Nat.zero_add, h.cellAt _ (by omega)]; exact (rsV_get l i hi).1
    · rw [Nat.zero_add, h.cellAt _ (by omega)]; exact (rsV_get l i hi).2.1
    · rw [Nat.zero_add, h.cellAt _ (by omega)]; exact (rsV_get l i hi).2.2.1
    · rw [Nat.zero_add, h.cellAt _ (by omega)]; exact (rsV_get l i hi).2.2.2
/-- 'append' of one run onto a row of the call's own. -/
theorem wpList_append_rn {P : Program} {ops : Array Oper} {rest : List Oper} {o : Oper} {a : Act} {Q : Exit → Act → World → Prop} (wr : World) (hgd : o.guard = none) (s x : Operand) (t : TypeId)
    (ho : o.op = .call { callee := .builtin .append, args := #[s, x], argTypes := #[t, t] })
    (base : Nat) (i : TypeInfo) (z : Value) (ht : P.underlying t = some (.slice 60)) (hi : P.info? 60 = some i) (hz : i.zero = some z) (hsize : i.size = 4) (hby : i.bytes = 32) (hz1 : z.cells.size = 4)
    (v : Value) (l : List B4) (hs : a.eval s = v) (hown : wr.ownsRow base 60 4 v l.length (rsV l))
    (p q u k : Int) (c : Nat) (hx : a.eval x = .slice (some ⟨wr.heap.size, 0, none⟩) 1 c)
    (hn : l.length ≤ 1048576) (hbase : base ≤ wr.heap.size)
    (h : ∀ v' w', w'.ownsRow base 60 4 v' (l ++ [(⟨p, q, u, k⟩ : B4)]).length (rsV (l ++ [(⟨p, q, u, k⟩ : B4)])) → Below base wr w' → wpList P ops Q rest (a.put o.dst v') w') :
    wpList P ops Q (o :: rest) a (wr.alloc (.cells #[.int .i64 p, .int .i64 q, .int .i64 u, .int .i64 k] 60)) := by
  refine wpList_append_own (wr.alloc (.cells #[.int .i64 p, .int .i64 q, .int .i64 u, .int .i64 k] 60)) hgd s x t ho base 60 i z 4 32 ht hi hz hsize hby hz1 (by decide) v l.length (rsV l) hs (hown.alloc _) ⟨wr.heap.size, 0, none⟩ 1 c (rnV ⟨p, q, u, k⟩) hx (by simp [rnV]) ?_ (by intro x hx; simp [rnV] at hx; rcases hx with rfl | rfl | rfl | rfl <;> rfl) (by unfold maxLen; omega) (by omega) (by simp; omega) ?_
  · intro j x hj
    have hadd : (⟨wr.heap.size, 0, none⟩ : Addr).add j = ⟨wr.heap.size, j, none⟩ := by unfold Addr.add; split <;> simp_all
    rw [hadd, World.cell?_alloc_mark wr #[.int .i64 p, .int .i64 q, .int .i64 u, .int .i64 k] 60 (0, 0) j, ← hj]
    simp [rnV]
  · intro v' w' ho' hg _
    refine h v' w' ?_ ?_
    · have e1 : (l ++ [(⟨p, q, u, k⟩ : B4)]).length = l.length + 1 := by simp
      have e2 : rsV (l ++ [(⟨p, q, u, k⟩ : B4)]) = rsV l ++ rnV ⟨p, q, u, k⟩ := by rw [rsV_app]; simp [rsV]
      rw [e1, e2]; exact ho'
    · exact ((Below.refl base wr).alloc hbase _).grown hg (by simp; omega) (fun k hk => (hown.lt k hk).1)
/-- A call hands back a list of runs of its own. -/
def RunsRes (w : World) (r : Ending) (w' : World) (l : List B4) : Prop :=
  ∃ v, r = .returned v ∧ w'.ownsRow w.heap.size 60 4 v l.length (rsV l) ∧ Below w.heap.size w w'
end Go.Proofs.Ytmhgfikcnhoknaa

/-
  Rows of boxes that are made and written one by one.
-/
namespace Go.Proofs.Ytmhgfikcnhoknaa
open Go.RowKit

theorem infoBox : (Try.prog.info? 28).map (fun i => (i.zero, i.size, i.bytes)) = some (some (.agg #[.int .i64 0, .int .i64 0, .int .i64 0, .int .i64 0]), 4, 32) := by kernel_rfl

/-- The first k boxes of a row are those of G. -/
def BxAt (xs : List Value) (G : Nat → B4) (k : Nat) : Prop := ∀ j, j < k → xs[j * 4]? = some (.int .i64 (G j).x0) ∧ xs[j * 4 + 1]? = some (.int .i64 (G j).y0) ∧ xs[j * 4 + 2]? = some (.int .i64 (G j).x1) ∧ xs[j * 4 + 3]? = some (.int .i64 (G j).y1)
theorem BxAt.step {xs : List Value} {G : Nat → B4} {k : Nat} (h : BxAt xs G k) (hk : k * 4 + 4 ≤ xs.length) :
    BxAt ((((xs.set (k * 4) (.int .i64 (G k).x0)).set (k * 4 + 1) (.int .i64 (G k).y0)).set (k * 4 + 2) (.int .i64 (G k).x1)).set (k * 4 + 3) (.int .i64 (G k).y1)) G (k + 1) := by
  intro j hj
  by_cases hjk : j = k
  · subst hjk
    refine ⟨?_, ?_, ?_, ?_⟩ <;> simp [List.getElem?_set] <;> omega
  · obtain ⟨h0, h1, h2, h3⟩ := h j (by omega)
    refine ⟨?_, ?_, ?_, ?_⟩
    · rw [List.getElem?_set_ne (by omega), List.getElem?_set_ne (by omega), List.getElem?_set_ne (by omega), List.getElem?_set_ne (by omega)]; exact h0
    · rw [List.getElem?_set_ne (by omega), List.getElem?_set_ne (by omega), List.getElem?_set_ne (by omega), List.getElem?_set_ne (by omega)]; exact h1
    · rw [List.getElem?_set_ne (by omega), List.getElem?_set_ne (by omega), List.getElem?_set_ne (by omega), List.getElem?_set_ne (by omega)]; exact h2
    · rw [List.getElem?_set_ne (by omega), List.getElem?_set_ne (by omega), List.getElem?_set_ne (by omega), List.getElem?_set_ne (by omega)]; exact h3

theorem own_cell4 {w : World} {base t g n cap k : Nat} {xs : List Value} (h : w.ownsRow base t 4 (.slice (some ⟨g, 0, none⟩) n cap) n xs) (hk : k < n) :
    ∃ v0 v1 v2 v3, w.cell? ⟨g, k * 4, none⟩ = some v0 ∧ w.cell? ⟨g, k * 4 + 1, none⟩ = some v1 ∧ w.cell? ⟨g, k * 4 + 2, none⟩ = some v2 ∧ w.cell? ⟨g, k * 4 + 3, none⟩ = some v3 := by
  have hl := h.1
  refine ⟨xs[k * 4]'(by omega), xs[k * 4 + 1]'(by omega), xs[k * 4 + 2]'(by omega), xs[k * 4 + 3]'(by omega), ?_, ?_, ?_, ?_⟩
  all_goals rw [h.cellAt _ (by omega)]; exact List.getElem?_eq_getElem _
theorem own_put4 {w : World} {base t g n cap k : Nat} {xs : List Value} (h : w.ownsRow base t 4 (.slice (some ⟨g, 0, none⟩) n cap) n xs) (x y z u : Value) :
    ((((w.setCell ⟨g, k * 4, none⟩ x).setCell ⟨g, k * 4 + 1, none⟩ y).setCell ⟨g, k * 4 + 2, none⟩ z).setCell ⟨g, k * 4 + 3, none⟩ u).ownsRow base t 4 (.slice (some ⟨g, 0, none⟩) n cap) n ((((xs.set (k * 4) x).set (k * 4 + 1) y).set (k * 4 + 2) z).set (k * 4 + 3) u) :=
  ((((h.stored _ _).1.stored _ _).1.stored _ _).1.stored _ _).1
theorem below_at4 {B : Nat} {a w : World} (h : Below B a w) {b : Nat} (hb : B ≤ b) (o0 o1 o2 o3 : Nat) (x y z u : Value) : Below B a ((((w.setCell ⟨b, o0, none⟩ x).setCell ⟨b, o1, none⟩ y).setCell ⟨b, o2, none⟩ z).setCell ⟨b, o3, none⟩ u) :=
  (((h.setCell (p := ⟨b, o0, none⟩) hb x).setCell (p := ⟨b, o1, none⟩) hb y).setCell (p := ⟨b, o2, none⟩) hb z).setCell (p := ⟨b, o3, none⟩) hb u
theorem own_boxes {w : World} {base t g n cap : Nat} {xs : List Value} {G : Nat → B4} (h : w.ownsRow base t 4 (.slice (some ⟨g, 0, none⟩) n cap) n xs) (hx : BxAt xs G n) : ∀ i, i < n → HasBox w g i (G i) := by
  intro i hi
  obtain ⟨h0, h1, h2, h3⟩ := hx i hi
  refine ⟨?_, ?_, ?_, ?_⟩
  · rw [h.cellAt _ (by omega)]; exact h0
  · rw [h.cellAt _ (by omega)]; exact h1
  · rw [h.cellAt _ (by omega)]; exact h2
  · rw [h.cellAt _ (by omega)]; exact h3
end Go.Proofs.Ytmhgfikcnhoknaa

/-
  The laws' own words on lists of runs: handed over, measured, held against each other, marked and held.
-/
namespace Go.Proofs.Ytmhgfikcnhoknaa
open Go.RowKit
set_option linter.unusedVariables false

theorem own_bxa {w : World} {base t n cap : Nat} {a : Option Addr} {xs : List Value} {G : Nat → B4} (h : w.ownsRow base t 4 (.slice a n cap) n xs) (hx : BxAt xs G n) : ∀ i, i < n → RnAt w a i (G i) := by
  intro i hi
  obtain ⟨g, c, e, _, _⟩ := own_at h (by omega)
  cases e
  obtain ⟨h0, h1, h2, h3⟩ := hx i hi
  refine ⟨g, 0, rfl, ?_, ?_, ?_, ?_⟩
  · rw [Nat.zero_add, h.cellAt _ (by omega)]; exact h0
  · rw [Nat.zero_add, h.cellAt _ (by omega)]; exact h1
  · rw [Nat.zero_add, h.cellAt _ (by omega)]; exact h2
  · rw [Nat.zero_add, h.cellAt _ (by omega)]; exact h3

theorem szRunS_any (ao : Option Addr) (n cap : Nat) (z : Int) (hz : 0 ≤ z ∧ z ≤ 1048576) (hm : n ≤ maxLen) (w : World) :
    Calls Try.prog 18 #[.slice ao n cap, .int .i64 z] w fun r w' => r = .returned (.int .i64 (if z < n then -1 else z - n)) ∧ w' = w := by
  have hw : IntKind.i64.wrap (z - (n : Int)) = z - n := IntWalk.i64_in _ (by unfold maxLen at hm; omega)
  by_cases hlt : z < n
  · have h0 : z - (n : Int) < 0 := by omega
    rw [if_pos hlt]
    go_enter Try.func18, Try.ntmps18
    go_wp2
    go_ret
    exact ⟨rfl, rfl⟩
  · have h0 : ¬ z - (n : Int) < 0 := by omega
    rw [if_neg hlt]
    go_enter Try.func18, Try.ntmps18
    go_wp2
    go_ret
    exact ⟨rfl, rfl⟩

set_option maxHeartbeats 1000000 in
theorem toRun_any (a b c d : Int) (w : World) :
    Calls Try.prog 42 #[.agg #[.int .i64 a, .int .i64 b, .int .i64 c, .int .i64 d]] w fun r w' => r = .returned (.agg #[.int .i64 a, .int .i64 b, .int .i64 c, .int .i64 d]) ∧ Below w.heap.size w w' := by
  go_enter Try.func42, Try.ntmps42
  go_wp2
  refine bodyPost_ret (v := .agg #[.int .i64 a, .int .i64 b, .int .i64 c, .int .i64 d]) (by simp [results, Try.results42, go_sem]) rfl ⟨rfl, ?_⟩
  exact al3_below _ _ _ _

set_option maxHeartbeats 1000000 in
theorem eqRun_same (a b c d : Int) (w : World) :
    Calls Try.prog 39 #[.agg #[.int .i64 a, .int .i64 b, .int .i64 c, .int .i64 d], .agg #[.int .i64 a, .int .i64 b, .int .i64 c, .int .i64 d]] w fun r w' => r = .returned (.bool true) ∧ Below w.heap.size w w' := by
  go_enter Try.func39, Try.ntmps39
  go_wp2
  go_ret
  exact ⟨rfl, al2_below _ _ _⟩

set_option maxHeartbeats 2000000 in
theorem toRunS_own (f : Nat → B4) (ao : Option Addr) (n cap : Nat) (hn : n ≤ 1048576) (w : World) (H : ∀ i, i < n → RnAt w ao i (f i)) :
    Calls Try.prog 21 #[.slice ao n cap] w fun r w' => r = .returned (.slice (some ⟨w.heap.size, 0, none⟩) n n) ∧ (∃ xs, w'.ownsRow w.heap.size 60 4 (.slice (some ⟨w.heap.size, 0, none⟩) n n) n xs ∧ BxAt xs f n) ∧ Below w.heap.size w w' := by
  obtain ⟨i0, hi, hz0, hz1, hz2⟩ := info_parts infoRun
  have HH := hide H
  clear H
  go_enter Try.func21, Try.ntmps21
  go_wp2_with (at_make; go_must (refine wpList_make_full w rfl _ _ 36 rfl w.heap.size 60 i0 (.agg #[.int .i64 0, .int .i64 0, .int .i64 0, .int .i64 0]) 4 Try.underlying36 hi hz0 hz1 .i64 .i64 _ _ n (by rfl) (by rfl) (by omega) (by omega) (by rw [hz2]; omega) (by unfold maxLen; omega) (Nat.le_refl _) ?_); intro w1 hown1 hg1)
  have B1 : Below w.heap.size w w1 := (Below.refl _ w).grown hg1 (Nat.le_refl _) (by simp)
  clear hg1
  go_loopw [4] (fun i u => ∃ (k : Nat) (xs : List Value), k ≤ n ∧ i = .int .i64 k ∧ u.ownsRow w.heap.size 60 4 (.slice (some ⟨w.heap.size, 0, none⟩) n n) n xs ∧ Hid (BxAt xs f k) ∧ Below w.heap.size w u) (fun i _ => n - (intOf i).toNat)
  case atStart => exact ⟨0, _, Nat.zero_le _, rfl, hown1, fun j hj => absurd hj (by omega), B1⟩
  case round =>
    obtain ⟨k, xs, hk, rfl, hown, HX, hb⟩ := hrel
    clear hown1 B1
    have O := hide hown
    by_cases hlt : k < n
    · have HP := (unhide HH k hlt).next hb
      have hst := hide ((unhide HX).step (by have := hown.1; omega))
      generalize f k = p at HP hst
      obtain ⟨x, y, z, t⟩ := p
      obtain ⟨s, o, rfl, g0, g1, g2, g3⟩ := HP
      dsimp only at g0 g1 g2 g3
      have HB := hide hb
      clear hb hown
      have E := hide (toRun_any x y z t)
      go_wp2_with fail
      go_fit (unhide E _)
      rintro r w2 ⟨rfl, hb⟩
      replace O := hide (own_below (unhide O) hb)
      replace HB := hide (below_two (unhide HB) hb)
      clear hb g0 g1 g2 g3
      obtain ⟨v0, v1, v2, v3, c0, c1, c2, c3⟩ := own_cell4 (unhide O) hlt
      have f0 := (unhide O).frozenAt (k * 4)
      have f1 := (unhide O).frozenAt (k * 4 + 1)
      have f2 := (unhide O).frozenAt (k * 4 + 2)
      have f3 := (unhide O).frozenAt (k * 4 + 3)
      go_wp2_with fail
      go_roundw
      case rel => exact ⟨k + 1, _, by omega, by go_num, own_put4 (unhide O) _ _ _ _, hst, below_at4 (unhide HB) (Nat.le_refl _) _ _ _ _ _ _ _ _⟩
      case measure => simp [intOf]; omega
    · have hke : k = n := by omega
      subst hke
      have hp := hide (show ∃ xs, wr.ownsRow w.heap.size 60 4 (.slice (some ⟨w.heap.size, 0, none⟩) k k) k xs ∧ BxAt xs f k from ⟨xs, hown, unhide HX⟩)
      have HB := hide hb
      clear hb hown O HX
      go_wp2_with fail
      go_ret
      exact ⟨rfl, unhide hp, unhide HB⟩

set_option maxHeartbeats 2000000 in
theorem eqRunS_arg (f : Nat → B4) (ao bo : Option Addr) (n cap cap' : Nat) (hn : n ≤ 1048576) (w : World) (HA : ∀ i, i < n → RnAt w ao i (f i)) (HB : ∀ i, i < n → RnAt w bo i (f i)) :
    Calls Try.prog 15 #[.slice ao n cap, .slice bo n cap'] w fun r w' => r = .returned (.bool true) ∧ Below w.heap.size w w' := by
  replace HA := hide HA
  replace HB := hide HB
  go_enter Try.func15, Try.ntmps15
  go_wp2_with fail
  go_loopw [5] (fun i u => ∃ k : Nat, k ≤ n ∧ i = .int .i64 k ∧ Below w.heap.size w u) (fun i _ => n - (intOf i).toNat)
  case atStart => exact ⟨0, Nat.zero_le _, rfl, Below.refl _ _⟩
  case round =>
    obtain ⟨k, hk, rfl, hb⟩ := hrel
    by_cases hlt : k < n
    · have HP := (unhide HA k hlt).next hb
      have HQ := (unhide HB k hlt).next hb
      generalize f k = p at HP HQ
      obtain ⟨x, y, z, t⟩ := p
      obtain ⟨s, o, rfl, g0, g1, g2, g3⟩ := HP
      obtain ⟨s', o', rfl, h0, h1, h2, h3⟩ := HQ
      dsimp only at g0 g1 g2 g3 h0 h1 h2 h3
      replace hb := hide hb
      have E := hide (eqRun_same x y z t)
      go_wp2_with fail
      obtain ⟨I, F, hI, F1, F2⟩ := kept_worlds wr
      have a0 : ∀ i, (F i).cell? ⟨s, o + k * 4, none⟩ = some (.int .i64 x) := fun i => kc (F2 i) g0
      have a1 : ∀ i, (F i).cell? ⟨s, o + k * 4 + 1, none⟩ = some (.int .i64 y) := fun i => kc (F2 i) g1
      have a2 : ∀ i, (F i).cell? ⟨s, o + k * 4 + 2, none⟩ = some (.int .i64 z) := fun i => kc (F2 i) g2
      have a3 : ∀ i, (F i).cell? ⟨s, o + k * 4 + 3, none⟩ = some (.int .i64 t) := fun i => kc (F2 i) g3
      have b0 : ∀ i, (F i).cell? ⟨s', o' + k * 4, none⟩ = some (.int .i64 x) := fun i => kc (F2 i) h0
      have b1 : ∀ i, (F i).cell? ⟨s', o' + k * 4 + 1, none⟩ = some (.int .i64 y) := fun i => kc (F2 i) h1
      have b2 : ∀ i, (F i).cell? ⟨s', o' + k * 4 + 2, none⟩ = some (.int .i64 z) := fun i => kc (F2 i) h2
      have b3 : ∀ i, (F i).cell? ⟨s', o' + k * 4 + 3, none⟩ = some (.int .i64 t) := fun i => kc (F2 i) h3
      clear g0 g1 g2 g3 h0 h1 h2 h3
      replace F1 := hide F1
      replace F2 := hide F2
      refine wp_region_quiet_in (unhide F1) (by kernel_rfl) (by kernel_rfl) ?_
      repeat (go_big_quiet_step (with_reducible exact quiet_in (unhide F1) (unhide F2) (unhide E _)))
      refine wpQuiet_nil ?_
      rintro _ ⟨i, rfl⟩
      have hF := unhide F2 i
      clear F1 a0 a1 a2 a3 b0 b1 b2 b3
      go_wp2_with fail
      go_roundw
      case rel => exact ⟨k + 1, by omega, by go_num, below_two (unhide hb) hF⟩
      case measure => simp [intOf]; omega
    · have hke : k = n := by omega
      subst hke
      go_wp2_with fail
      go_ret
      exact ⟨rfl, hb⟩

set_option maxHeartbeats 2000000 in
theorem markRunS_any (v : Value) (base n k : Nat) (xs : List Value) (hk : k ≤ 10000000) (hn : n ≤ 1048576) (w : World) (hv : w.ownsRow base 60 4 v n xs) :
    Calls Try.prog 16 #[v, .int .i64 k] w fun r w' => r = .returned (.int .i64 ((k + n * 4 : Nat) : Int)) ∧ (∃ ys, w'.ownsRow base 60 4 v n ys ∧ Ramp ys k (n * 4)) ∧ w.grownBy w' v.ownBlock := by
  obtain ⟨p, cap, rfl⟩ := own_form hv
  have hp := fun h => own_at hv h
  have HV := hide hv
  clear hv
  go_enter Try.func16, Try.ntmps16
  go_wp2
  go_loopw [1, 5] (fun t i wr => ∃ (j : Nat) (ys : List Value), j ≤ n ∧ i = .int .i64 j ∧ t = .int .i64 ((k + j * 4 : Nat) : Int) ∧ wr.ownsRow base 60 4 (.slice p n cap) n ys ∧ Hid (Ramp ys k (j * 4)) ∧ w.grownBy wr (Value.slice p n cap).ownBlock) (fun _ i _ => n - (intOf i).toNat)
  case atStart => exact ⟨0, _, Nat.zero_le _, rfl, rfl, unhide HV, fun j hj => absurd hj (by omega), World.grownBy.refl _ _⟩
  case round =>
    obtain ⟨j, ys, hj, rfl, rfl, hown, HR, hgr⟩ := hrel
    have HO := hide hown
    have HG := hide hgr
    by_cases hlt : j < n
    · obtain ⟨g, cap', e, _, _⟩ := hp (by omega)
      cases e
      have hlen : j * 4 + 3 < ys.length := by have := hown.1; omega
      have c0 : wr.cell? ⟨g, j * 4, none⟩ = some ys[j * 4] := by rw [hown.cellAt _ (by omega)]; exact List.getElem?_eq_getElem _
      have f0 := hown.frozenAt (j * 4)
      have o1 := (hown.stored (j * 4) (.int .i64 ((k + j * 4 : Nat) : Int))).1
      have c1 : (wr.setCell ⟨g, j * 4, none⟩ (.int .i64 ((k + j * 4 : Nat) : Int))).cell? ⟨g, j * 4 + 1, none⟩ = some ys[j * 4 + 1] := by rw [o1.cellAt _ (by omega), List.getElem?_set_ne (by omega)]; exact List.getElem?_eq_getElem _
      have f1 := o1.frozenAt (j * 4 + 1)
      have o2 := (o1.stored (j * 4 + 1) (.int .i64 (((k + j * 4 : Nat) : Int) + 1))).1
      have c2 : ((wr.setCell ⟨g, j * 4, none⟩ (.int .i64 ((k + j * 4 : Nat) : Int))).setCell ⟨g, j * 4 + 1, none⟩ (.int .i64 (((k + j * 4 : Nat) : Int) + 1))).cell? ⟨g, j * 4 + 2, none⟩ = some ys[j * 4 + 2] := by rw [o2.cellAt _ (by omega), List.getElem?_set_ne (by omega), List.getElem?_set_ne (by omega)]; exact List.getElem?_eq_getElem _
      have f2 := o2.frozenAt (j * 4 + 2)
      have o3 := (o2.stored (j * 4 + 2) (.int .i64 (((k + j * 4 : Nat) : Int) + 1 + 1))).1
      have c3 : (((wr.setCell ⟨g, j * 4, none⟩ (.int .i64 ((k + j * 4 : Nat) : Int))).setCell ⟨g, j * 4 + 1, none⟩ (.int .i64 (((k + j * 4 : Nat) : Int) + 1))).setCell ⟨g, j * 4 + 2, none⟩ (.int .i64 (((k + j * 4 : Nat) : Int) + 1 + 1))).cell? ⟨g, j * 4 + 3, none⟩ = some ys[j * 4 + 3] := by rw [o3.cellAt _ (by omega), List.getElem?_set_ne (by omega), List.getElem?_set_ne (by omega), List.getElem?_set_ne (by omega)]; exact List.getElem?_eq_getElem _
      have f3 := o3.frozenAt (j * 4 + 3)
      have O3 := hide o3
      have hst := hide (((((unhide HR).step (by omega)).step (by rw [List.length_set]; omega)).step (by rw [List.length_set, List.length_set]; omega)).step (by rw [List.length_set, List.length_set, List.length_set]; exact hlen))
      have G3 := hide (grown_trans (grown_trans (grown_trans hgr (hown.stored (j * 4) (.int .i64 ((k + j * 4 : Nat) : Int))).2) (o1.stored (j * 4 + 1) (.int .i64 (((k + j * 4 : Nat) : Int) + 1))).2) (o2.stored (j * 4 + 2) (.int .i64 (((k + j * 4 : Nat) : Int) + 1 + 1))).2)
      have e1 : ((k + (j * 4 + 1) : Nat) : Int) = ((k + j * 4 : Nat) : Int) + 1 := by omega
      have e2 : ((k + (j * 4 + 1 + 1) : Nat) : Int) = ((k + j * 4 : Nat) : Int) + 1 + 1 := by omega
      have e3 : ((k + (j * 4 + 1 + 1 + 1) : Nat) : Int) = ((k + j * 4 : Nat) : Int) + 1 + 1 + 1 := by omega
      rw [e1, e2, e3] at hst
      change Hid (Ramp ((((ys.set (j * 4) (.int .i64 ((k + j * 4 : Nat) : Int))).set (j * 4 + 1) (.int .i64 (((k + j * 4 : Nat) : Int) + 1))).set (j * 4 + 2) (.int .i64 (((k + j * 4 : Nat) : Int) + 1 + 1))).set (j * 4 + 3) (.int .i64 (((k + j * 4 : Nat) : Int) + 1 + 1 + 1))) k (j * 4 + 4)) at hst
      clear hown hgr o1 o2 o3 e1 e2 e3
      generalize hq : ((k + j * 4 : Nat) : Int) = q at c1 f1 c2 f2 c3 f3 O3 hst G3 ⊢
      have hq0 : 0 ≤ q ∧ q ≤ 4100000000000000000 := by omega
      have hw1 : IntKind.i64.wrap (q + 1) = q + 1 := IntWalk.i64_in _ (by omega)
      have hw2 : IntKind.i64.wrap (q + 1 + 1) = q + 1 + 1 := IntWalk.i64_in _ (by omega)
      have hw3 : IntKind.i64.wrap (q + 1 + 1 + 1) = q + 1 + 1 + 1 := IntWalk.i64_in _ (by omega)
      have hw4 : IntKind.i64.wrap (q + 1 + 1 + 1 + 1) = q + 1 + 1 + 1 + 1 := IntWalk.i64_in _ (by omega)
      replace hq := hide hq
      go_wp2_with fail
      go_roundw
      case rel => exact ⟨j + 1, _, by omega, by go_num, by rw [← unhide hq]; go_num, ((unhide O3).stored (j * 4 + 3) _).1, by have := unhide hst; rw [show (j + 1) * 4 = j * 4 + 4 by omega]; exact this, grown_trans (unhide G3) ((unhide O3).stored (j * 4 + 3) _).2⟩
      case measure => simp [intOf]; omega
    · have hje : j = n := by omega
      subst hje
      clear hown hgr
      go_wp2
      go_ret
      exact ⟨rfl, ⟨ys, unhide HO, unhide HR⟩, unhide HG⟩

set_option maxHeartbeats 2000000 in
theorem heldRunS_yes (v : Value) (base n k : Nat) (ys : List Value) (hk : k ≤ 10000000) (hn : n ≤ 1048576) (w : World) (hv : w.ownsRow base 60 4 v n ys) (hr : Ramp ys k (n * 4)) :
    Calls Try.prog 17 #[v, .int .i64 k] w fun r w' => r = .returned (.int .i64 ((k + n * 4 : Nat) : Int)) ∧ w' = w := by
  obtain ⟨p, cap, rfl⟩ := own_form hv
  have hp := fun h => own_at hv h
  replace hv := hide hv
  replace hr := hide hr
  go_enter Try.func17, Try.ntmps17
  go_wp2
  go_loopw [1, 5] (fun t i wr => ∃ j : Nat, j ≤ n ∧ i = .int .i64 j ∧ t = .int .i64 ((k + j * 4 : Nat) : Int) ∧ wr = w) (fun _ i _ => n - (intOf i).toNat)
  case atStart => exact ⟨0, Nat.zero_le _, rfl, rfl, rfl⟩
  case round =>
    obtain ⟨j, hj, rfl, rfl, rfl⟩ := hrel
    by_cases hlt : j < n
    · obtain ⟨g, cap', e, _, _⟩ := hp (by omega)
      cases e
      have c0 : wr.cell? ⟨g, j * 4, none⟩ = some (.int .i64 ((k + j * 4 : Nat) : Int)) := by rw [(unhide hv).cellAt _ (by omega)]; exact unhide hr _ (by omega)
      have c1 : wr.cell? ⟨g, j * 4 + 1, none⟩ = some (.int .i64 (((k + j * 4 : Nat) : Int) + 1)) := by rw [(unhide hv).cellAt _ (by omega), unhide hr _ (by omega)]; congr 2
      have c2 : wr.cell? ⟨g, j * 4 + 2, none⟩ = some (.int .i64 (((k + j * 4 : Nat) : Int) + 1 + 1)) := by rw [(unhide hv).cellAt _ (by omega), unhide hr _ (by omega)]; exact congrArg (fun z => some (Value.int .i64 z)) (by omega)
      have c3 : wr.cell? ⟨g, j * 4 + 3, none⟩ = some (.int .i64 (((k + j * 4 : Nat) : Int) + 1 + 1 + 1)) := by rw [(unhide hv).cellAt _ (by omega), unhide hr _ (by omega)]; exact congrArg (fun z => some (Value.int .i64 z)) (by omega)
      generalize hq : ((k + j * 4 : Nat) : Int) = q at c0 c1 c2 c3 ⊢
      have hq0 : 0 ≤ q ∧ q ≤ 4100000000000000000 := by omega
      have hw1 : IntKind.i64.wrap (q + 1) = q + 1 := IntWalk.i64_in _ (by omega)
      have hw2 : IntKind.i64.wrap (q + 1 + 1) = q + 1 + 1 := IntWalk.i64_in _ (by omega)
      have hw3 : IntKind.i64.wrap (q + 1 + 1 + 1) = q + 1 + 1 + 1 := IntWalk.i64_in _ (by omega)
      have hw4 : IntKind.i64.wrap (q + 1 + 1 + 1 + 1) = q + 1 + 1 + 1 + 1 := IntWalk.i64_in _ (by omega)
      replace hq := hide hq
      go_wp2_with fail
      go_roundw
      case rel => exact ⟨j + 1, by omega, by go_num, by rw [← unhide hq]; go_num, by trivial⟩
      case measure => simp [intOf]; omega
    · have hje : j = n := by omega
      subst hje
      go_wp2
      go_ret
      exact ⟨rfl, rfl⟩
end Go.Proofs.Ytmhgfikcnhoknaa
