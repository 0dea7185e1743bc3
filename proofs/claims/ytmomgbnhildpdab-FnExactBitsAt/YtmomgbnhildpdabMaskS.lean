/-
  The specification's masks: boxes that they may have, right ones, the bits of a square. (By masks.py.)
-/
import Derived.Test.YtmomgbnhildpdabMaskP
import Derived.Test.YtmomgbnhildpdabPathL
import Derived.Laws.StructEq
import Derived.Deep.DeepFit
namespace Go.Proofs.Ytmomgbnhildpdab
open Go.RowKit
set_option linter.unusedVariables false

theorem row5m {w1 : World} {b : Nat} {x0 x1 x2 x3 x4 : Value} {t : TypeId} (h : w1.heap[b]? = some (.cells #[x0, x1, x2, x3, x4] t (0, 0))) : w1.cell? ⟨b, 0, none⟩ = some x0 ∧ w1.cell? ⟨b, 1, none⟩ = some x1 ∧ w1.cell? ⟨b, 2, none⟩ = some x2 ∧ w1.cell? ⟨b, 3, none⟩ = some x3 ∧ w1.cell? ⟨b, 4, none⟩ = some x4 := by
  refine ⟨?_, ?_, ?_, ?_, ?_⟩ <;> simp [World.cell?, h]

theorem ret_i {a b : Int} (h : a = b) : Ending.returned (.int .i64 a) = .returned (.int .i64 b) := by rw [h]

set_option maxHeartbeats 4000000 in
set_option maxRecDepth 100000 in
theorem specL11Box_any (a b c d : Int) (w : World) :
    Calls Try.prog 75 #[.agg #[.int .i64 a, .int .i64 b, .int .i64 c, .int .i64 d]] w fun r w' => r = .returned (.bool (boxInB a b c d)) ∧ Below w.heap.size w w' := by
  have E0 := hide (specEmpty_any a b c d)
  have EA := hide (l01In_any a (-2000) 2000)
  have EB := hide (l01In_any b (-2000) 2000)
  have EC := hide (l01In_any c (-2000) 2000)
  have ED := hide (l01In_any d (-2000) 2000)
  have H : Hid ((!emptyB a b c d && (inB a (-2000) 2000 && (inB b (-2000) 2000 && (inB c (-2000) 2000 && (inB d (-2000) 2000 && (decide (c - a ≤ 60) && decide (d - b ≤ 60))))))) = boxInB a b c d) := rfl
  have w1 : Hid (inB a (-2000) 2000 = true → inB c (-2000) 2000 = true → IntKind.i64.wrap (c - a) = c - a) := fun h1 h2 => by
    rw [inB_true] at h1 h2; exact IntWalk.i64_in _ (by omega)
  have w2 : Hid (inB b (-2000) 2000 = true → inB d (-2000) 2000 = true → IntKind.i64.wrap (d - b) = d - b) := fun h1 h2 => by
    rw [inB_true] at h1 h2; exact IntWalk.i64_in _ (by omega)
  generalize emptyB a b c d = e0 at E0 H
  generalize inB a (-2000) 2000 = i1 at EA H w1
  generalize inB b (-2000) 2000 = i2 at EB H w2
  generalize inB c (-2000) 2000 = i3 at EC H w1
  generalize inB d (-2000) 2000 = i4 at ED H w2
  generalize boxInB a b c d = X at H ⊢
  go_enter Try.func75, Try.ntmps75
  go_upto_region 1 with fail
  have R := hide (new_row w (.cells #[.int .i64 a, .int .i64 b, .int .i64 c, .int .i64 d] 42))
  have HB := hide (al1_below w (.cells #[.int .i64 a, .int .i64 b, .int .i64 c, .int .i64 d] 42))
  obtain ⟨b1, hb1⟩ : ∃ b, Hid (b = w.heap.size) := ⟨_, rfl⟩
  rw [← unhide hb1] at R
  rw [← unhide hb1]
  generalize w.alloc (.cells #[.int .i64 a, .int .i64 b, .int .i64 c, .int .i64 d] 42) = W at R HB ⊢
  obtain ⟨r0, r1, r2, r3⟩ := row4 (unhide R)
  go_wp2_with fail
  go_fit (unhide E0 _)
  rintro r u1 ⟨rfl, hb⟩
  replace R := hide (row_next hb (unhide R))
  replace HB := hide (below_two (unhide HB) hb)
  clear hb r0 r1 r2 r3
  obtain ⟨r0, r1, r2, r3⟩ := row4 (unhide R)
  cases e0 with
  | true =>
    go_wp2_with fail
    go_ret
    exact ⟨ret_bool (unhide H), unhide HB⟩
  | false =>
    go_wp2_with fail
    go_fit (unhide EA _)
    rintro r u2 ⟨rfl, rfl⟩
    cases i1 with
    | false =>
      go_wp2_with fail
      go_ret
      exact ⟨ret_bool (unhide H), unhide HB⟩
    | true =>
      go_wp2_with fail
      go_fit (unhide EB _)
      rintro r u2 ⟨rfl, rfl⟩
      cases i2 with
      | false =>
        go_wp2_with fail
        go_ret
        exact ⟨ret_bool (unhide H), unhide HB⟩
      | true =>
        go_wp2_with fail
        go_fit (unhide EC _)
        rintro r u2 ⟨rfl, rfl⟩
        cases i3 with
        | false =>
          go_wp2_with fail
          go_ret
          exact ⟨ret_bool (unhide H), unhide HB⟩
        | true =>
          go_wp2_with fail
          go_fit (unhide ED _)
          rintro r u2 ⟨rfl, rfl⟩
          cases i4 with
          | false =>
            go_wp2_with fail
            go_ret
            exact ⟨ret_bool (unhide H), unhide HB⟩
          | true =>
            have w1' := unhide w1 (by trivial) (by trivial)
            have w2' := unhide w2 (by trivial) (by trivial)
            by_cases h1 : c - a ≤ 60
            · have hX : Hid ((decide (c - a ≤ 60) && decide (d - b ≤ 60)) = X) := unhide H
              rw [decide_eq_true h1] at hX
              go_wp2_with fail
              go_ret
              exact ⟨ret_bool (unhide hX), unhide HB⟩
            · have hX : Hid ((decide (c - a ≤ 60) && decide (d - b ≤ 60)) = X) := unhide H
              rw [decide_eq_false h1] at hX
              go_wp2_with fail
              go_ret
              exact ⟨ret_bool (unhide hX), unhide HB⟩

theorem mok_zero {a b c d : Int} {f : Nat → Int} : MOk a b c d 0 f ↔ a = 0 ∧ b = 0 ∧ c = 0 ∧ d = 0 :=
  ⟨fun h => by rcases h with ⟨_, h⟩ | ⟨h, _⟩; exact h; omega, fun h => .inl ⟨rfl, h⟩⟩
theorem mok_some {a b c d : Int} {n : Nat} {f : Nat → Int} (hn : n ≠ 0) : MOk a b c d n f ↔ boxInB a b c d = true ∧ n = sqN a b c d ∧ ∀ i, i < n → inB (f i) 0 15 = true :=
  ⟨fun h => by rcases h with ⟨h, _⟩ | ⟨_, h⟩; exact absurd h hn; exact h, fun h => .inr ⟨by omega, h⟩⟩
theorem bits_more {f : Nat → Int} {k : Nat} (h : ∀ j, j < k → inB (f j) 0 15 = true) (hk : inB (f k) 0 15 = true) : ∀ j, j < k + 1 → inB (f j) 0 15 = true := by
  intro j hj
  by_cases e : j = k
  · subst e; exact hk
  · exact h j (by omega)
theorem eqZero_yes (w : World) : (binOp .eql 42 (.agg #[.int .i64 0, .int .i64 0, .int .i64 0, .int .i64 0]) (.agg #[.int .i64 0, .int .i64 0, .int .i64 0, .int .i64 0])).run Try.prog w = .ok (.bool true) w := by kernel_rfl
theorem eqZero_d (w : World) (d : Int) (h : ¬ d = 0) : (binOp .eql 42 (.agg #[.int .i64 0, .int .i64 0, .int .i64 0, .int .i64 d]) (.agg #[.int .i64 0, .int .i64 0, .int .i64 0, .int .i64 0])).run Try.prog w = .ok (.bool false) w := by
  cases d with
  | ofNat n =>
    cases n with
    | zero => exact absurd rfl h
    | succ n => kernel_rfl
  | negSucc n => kernel_rfl
theorem eqZero_no (w : World) (a b c d : Int) (h : ¬ (a = 0 ∧ b = 0 ∧ c = 0 ∧ d = 0)) : (binOp .eql 42 (.agg #[.int .i64 a, .int .i64 b, .int .i64 c, .int .i64 d]) (.agg #[.int .i64 0, .int .i64 0, .int .i64 0, .int .i64 0])).run Try.prog w = .ok (.bool false) w := by
  by_cases ha : a = 0
  · subst ha
    by_cases hb : b = 0
    · subst hb
      by_cases hc : c = 0
      · subst hc
        exact eqZero_d w d (fun hd => h ⟨rfl, rfl, rfl, hd⟩)
      · cases c with
        | ofNat n =>
          cases n with
          | zero => exact absurd rfl hc
          | succ n => kernel_rfl
        | negSucc n => kernel_rfl
    · cases b with
      | ofNat n =>
        cases n with
        | zero => exact absurd rfl hb
        | succ n => kernel_rfl
      | negSucc n => kernel_rfl
  · cases a with
    | ofNat n =>
      cases n with
      | zero => exact absurd rfl ha
      | succ n => kernel_rfl
    | negSucc n => kernel_rfl

attribute [local go_sem ↓] eqZero_yes eqZero_no in
set_option maxHeartbeats 4000000 in
set_option maxRecDepth 100000 in
theorem specMaskOk_any (a b c d : Int) (f : Nat → Int) (ao : Option Addr) (n cp : Nat) (hn : n ≤ 1048576) (w : World) (P : ∀ i, i < n → IntAt w ao i (f i)) :
    Calls Try.prog 55 #[.agg #[.int .i64 a, .int .i64 b, .int .i64 c, .int .i64 d, .slice ao n cp]] w fun r w' => r = .returned (.bool (maskOkB a b c d n f)) ∧ Below w.heap.size w w' := by
  have EB := hide (specL11Box_any a b c d)
  replace P := hide P
  by_cases h0 : n = 0
  · subst h0
    by_cases hz : a = 0 ∧ b = 0 ∧ c = 0 ∧ d = 0
    · rw [maskOk_iff.2 (mok_zero.2 hz)]
      obtain ⟨rfl, rfl, rfl, rfl⟩ := hz
      go_enter Try.func55, Try.ntmps55
      go_wp2_with fail
      go_ret
      exact ⟨rfl, al1_below _ _⟩
    · rw [maskOk_no (fun h => hz (mok_zero.1 h))]
      go_enter Try.func55, Try.ntmps55
      go_wp2_with fail
      go_ret
      exact ⟨rfl, al1_below _ _⟩
  have h0i : ((n : Int) == 0) = false := beq_eq_false_iff_ne.2 (by omega)
  have hmo : Hid (MOk a b c d n f ↔ boxInB a b c d = true ∧ n = sqN a b c d ∧ ∀ i, i < n → inB (f i) 0 15 = true) := mok_some h0
  have hyes : Hid (MOk a b c d n f → maskOkB a b c d n f = true) := fun h => maskOk_iff.2 h
  have hno : Hid (¬ MOk a b c d n f → maskOkB a b c d n f = false) := fun h => maskOk_no h
  generalize maskOkB a b c d n f = X at hyes hno ⊢
  generalize MOk a b c d n f = M at hyes hno hmo
  have hsq : Hid (boxInB a b c d = true → (n = sqN a b c d ↔ (n : Int) = (c - a) * (d - b)) ∧ IntKind.i64.wrap (c - a) = c - a ∧ IntKind.i64.wrap (d - b) = d - b ∧ IntKind.i64.wrap ((c - a) * (d - b)) = (c - a) * (d - b)) := fun h => by
    have e := sqN_int h
    have e2 := (sqN_le h).1
    obtain ⟨_, _, _, _, _, _, _, _⟩ := boxIn_iff.1 h
    refine ⟨by rw [← e]; omega, IntWalk.i64_in _ (by omega), IntWalk.i64_in _ (by omega), IntWalk.i64_in _ (by rw [← e]; omega)⟩
  generalize sqN a b c d = sq at hmo hsq
  generalize boxInB a b c d = bi at EB hmo hsq
  go_enter Try.func55, Try.ntmps55
  go_upto_region 1 with fail
  have R := hide (new_row w (.cells #[.int .i64 a, .int .i64 b, .int .i64 c, .int .i64 d, .slice ao n cp] 44))
  have HB := hide (al1_below w (.cells #[.int .i64 a, .int .i64 b, .int .i64 c, .int .i64 d, .slice ao n cp] 44))
  obtain ⟨b1, hb1⟩ : ∃ b, Hid (b = w.heap.size) := ⟨_, rfl⟩
  rw [← unhide hb1] at R
  rw [← unhide hb1]
  generalize w.alloc (.cells #[.int .i64 a, .int .i64 b, .int .i64 c, .int .i64 d, .slice ao n cp] 44) = W at R HB ⊢
  obtain ⟨r0, r1, r2, r3, r4⟩ := row5m (unhide R)
  go_wp2_with fail
  go_fit (unhide EB _)
  rintro r u1 ⟨rfl, hb⟩
  replace R := hide (row_next hb (unhide R))
  replace HB := hide (below_two (unhide HB) hb)
  clear hb r0 r1 r2 r3 r4
  obtain ⟨r0, r1, r2, r3, r4⟩ := row5m (unhide R)
  cases bi with
  | false =>
    have hX := hide (unhide hno (fun h => by have := (unhide hmo).1 h; cases this.1))
    go_wp2_with fail
    go_ret
    exact ⟨ret_bool (unhide hX).symm, unhide HB⟩
  | true =>
    obtain ⟨hs1, w1, w2, w3⟩ := unhide hsq rfl
    replace hs1 := hide hs1
    clear hsq
    by_cases hq : (n : Int) = (c - a) * (d - b)
    · have hq1 := hide hq
      have hqb : ((n : Int) == (c - a) * (d - b)) = true := beq_iff_eq.2 hq
      rw [← hq] at w3
      go_upto_region 5 with fail
      go_wp2_with fail
      clear r0 r1 r2 r3 r4 w1 w2 w3 hqb hq
      go_loopw [3] (fun i u => ∃ k : Nat, k ≤ n ∧ i = .int .i64 k ∧ Hid (∀ j, j < k → inB (f j) 0 15 = true) ∧ Hid (Below w.heap.size w u) ∧ Hid (u.heap[b1]? = some (.cells #[.int .i64 a, .int .i64 b, .int .i64 c, .int .i64 d, .slice ao n cp] 44 (0, 0)))) (fun i _ => n - (intOf i).toNat)
      case atStart => exact ⟨0, Nat.zero_le _, rfl, fun j hj => absurd hj (by omega), HB, R⟩
      case round =>
        clear HB R
        obtain ⟨k, hk, rfl, HK, HB, R⟩ := hrel
        obtain ⟨r0, r1, r2, r3, r4⟩ := row5m (unhide R)
        by_cases hlt : k < n
        · obtain ⟨s0, o0, rfl, g0⟩ := (unhide P k hlt).next (unhide HB)
          have EI := hide (l01In_any (f k) 0 15)
          obtain ⟨z, hz⟩ : ∃ z, Hid (f k = z) := ⟨_, rfl⟩
          rw [unhide hz] at g0 EI
          have hki : (k : Int) < (n : Int) := by omega
          cases hi : inB z 0 15 with
          | false =>
            rw [hi] at EI
            have hX := hide (unhide hno (fun h => by have := ((unhide hmo).1 h).2.2 k hlt; rw [unhide hz, hi] at this; cases this))
            clear hi
            go_wp2_with fail
            go_fit (unhide EI _)
            rintro r u2 ⟨rfl, rfl⟩
            go_wp2_with fail
            go_ret
            exact ⟨ret_bool (unhide hX).symm, unhide HB⟩
          | true =>
            rw [hi] at EI
            have HK2 : Hid (∀ j, j < k + 1 → inB (f j) 0 15 = true) := bits_more (unhide HK) (by rw [unhide hz]; exact hi)
            clear hi
            go_wp2_with fail
            go_fit (unhide EI _)
            rintro r u2 ⟨rfl, rfl⟩
            go_wp2_with fail
            go_roundw
            case rel => exact ⟨k + 1, by omega, by go_num, HK2, HB, R⟩
            case measure => simp [intOf]; omega
        · have hke : k = n := by omega
          subst hke
          have hki : ¬ (k : Int) < (k : Int) := by omega
          have hX := hide (unhide hyes ((unhide hmo).2 ⟨by trivial, (unhide hs1).2 (unhide hq1), unhide HK⟩))
          go_wp2_with fail
          go_ret
          exact ⟨ret_bool (unhide hX).symm, unhide HB⟩
    · have hX := hide (unhide hno (fun h => hq ((unhide hs1).1 ((unhide hmo).1 h).2.1)))
      have hqb : ((n : Int) == (c - a) * (d - b)) = false := beq_eq_false_iff_ne.2 hq
      go_wp2_with fail
      go_ret
      exact ⟨ret_bool (unhide hX).symm, unhide HB⟩

set_option maxHeartbeats 4000000 in
set_option maxRecDepth 100000 in
theorem specL11Bits_any (a b c d : Int) (f : Nat → Int) (ao : Option Addr) (n cp : Nat) (hn : n ≤ 1048576) (x y : Int) (w : World) (P : ∀ i, i < n → IntAt w ao i (f i)) (hM : MOk a b c d n f) :
    Calls Try.prog 56 #[.agg #[.int .i64 a, .int .i64 b, .int .i64 c, .int .i64 d, .slice ao n cp], .int .i64 x, .int .i64 y] w fun r w' => r = .returned (.int .i64 (atI a b c d f x y)) ∧ Below w.heap.size w w' := by
  have EI := hide (specInBox_any a b c d x y)
  have hA : Hid (atI a b c d f x y = if inBoxB a b c d x y = true then f (placeI a b c x y).toNat else 0) := rfl
  have hin : Hid (inBoxB a b c d x y = true → boxInB a b c d = true ∧ n = sqN a b c d ∧ 0 ≤ placeI a b c x y ∧ placeI a b c x y < (n : Int) ∧ (a ≤ x ∧ x < c ∧ b ≤ y ∧ y < d)) := fun h => by
    have hi := h
    simp only [inBoxB, Bool.and_eq_true, decide_eq_true_eq] at hi
    rcases hM with ⟨_, rfl, rfl, rfl, rfl⟩ | ⟨_, h1, h2, _⟩
    · omega
    · obtain ⟨p1, p2⟩ := place_bd h1 h
      exact ⟨h1, h2, p1, by omega, hi⟩
  replace P := hide P
  clear hM
  generalize inBoxB a b c d x y = ib at EI hA hin
  generalize atI a b c d f x y = V at hA ⊢
  go_enter Try.func56, Try.ntmps56
  go_upto_region 2 with fail
  have R3 := hide (al2_0 w (.cells #[.int .i64 a, .int .i64 b, .int .i64 c, .int .i64 d, .slice ao n cp] 44) (.cells #[.int .i64 a, .int .i64 b, .int .i64 c, .int .i64 d] 42))
  have R7 := hide (al2_1 w (.cells #[.int .i64 a, .int .i64 b, .int .i64 c, .int .i64 d, .slice ao n cp] 44) (.cells #[.int .i64 a, .int .i64 b, .int .i64 c, .int .i64 d] 42))
  have HB := hide (al2_below w (.cells #[.int .i64 a, .int .i64 b, .int .i64 c, .int .i64 d, .slice ao n cp] 44) (.cells #[.int .i64 a, .int .i64 b, .int .i64 c, .int .i64 d] 42))
  generalize w.heap.size + 1 = b7 at R7 ⊢
  obtain ⟨b3, hb3⟩ : ∃ b, Hid (b = w.heap.size) := ⟨_, rfl⟩
  rw [← unhide hb3] at R3
  rw [← unhide hb3]
  generalize (w.alloc (.cells #[.int .i64 a, .int .i64 b, .int .i64 c, .int .i64 d, .slice ao n cp] 44)).alloc (.cells #[.int .i64 a, .int .i64 b, .int .i64 c, .int .i64 d] 42) = W at R3 R7 HB ⊢
  obtain ⟨q0, q1, q2, q3⟩ := row4 (unhide R7)
  go_wp2_with fail
  go_fit (unhide EI _)
  rintro r u1 ⟨rfl, hb⟩
  replace R3 := hide (row_next hb (unhide R3))
  replace R7 := hide (row_next hb (unhide R7))
  replace HB := hide (below_two (unhide HB) hb)
  clear hb q0 q1 q2 q3
  cases ib with
  | false =>
    have hV : Hid (0 = V) := by unfold Hid; rw [unhide hA]; simp
    go_wp2_with fail
    go_ret
    exact ⟨ret_i (unhide hV), unhide HB⟩
  | true =>
    obtain ⟨h1, h2, h3, h4, h5⟩ := unhide hin (by trivial)
    clear hin
    replace hA : Hid (V = f (placeI a b c x y).toNat) := by unfold Hid; rw [unhide hA]; simp
    obtain ⟨_, _, h6, h7, h8, h9, h10, h11⟩ := boxIn_iff.1 h1
    obtain ⟨q0, q1, q2, q3⟩ := row4 (unhide R7)
    obtain ⟨r0, r1, r2, r3, r4⟩ := row5m (unhide R3)
    obtain ⟨j, hj⟩ : ∃ j : Nat, placeI a b c x y = (j : Int) := ⟨(placeI a b c x y).toNat, by omega⟩
    rw [hj] at h3 h4 hA
    have hjn : j < n := by omega
    have e0 : ((j : Int)).toNat = j := by omega
    rw [e0] at hA
    unfold placeI at hj
    have m1 : 0 ≤ (y - b) * (c - a) ∧ (y - b) * (c - a) ≤ 3600 := by
      have := mul_bd (A := 60) (X := 60) (a := y - b) (x := c - a) (by omega) (by omega) (by omega) (by omega)
      have := Int.mul_nonneg (a := y - b) (b := c - a) (by omega) (by omega)
      omega
    have v1 : IntKind.i64.wrap (y - b) = y - b := IntWalk.i64_in _ (by omega)
    have v2 : IntKind.i64.wrap (c - a) = c - a := IntWalk.i64_in _ (by omega)
    have v3 : IntKind.i64.wrap ((y - b) * (c - a)) = (y - b) * (c - a) := IntWalk.i64_in _ (by omega)
    have v4 : IntKind.i64.wrap ((y - b) * (c - a) + x) = (y - b) * (c - a) + x := IntWalk.i64_in _ (by omega)
    have v5 : IntKind.i64.wrap ((y - b) * (c - a) + x - a) = (j : Int) := by rw [← hj]; exact IntWalk.i64_in _ (by omega)
    obtain ⟨s0, o0, rfl, g0⟩ := (unhide P j hjn).next (unhide HB)
    clear h1 h2 h5 h6 h7 h8 h9 h10 h11 m1 hj e0
    go_wp2_with fail
    go_ret
    exact ⟨ret_i (unhide hA).symm, unhide HB⟩

set_option maxHeartbeats 4000000 in
theorem specBitsAt_any (a b c d : Int) (f : Nat → Int) (ao : Option Addr) (n cp : Nat) (hn : n ≤ 1048576) (x y : Int) (w : World) (P : ∀ i, i < n → IntAt w ao i (f i)) :
    Calls Try.prog 19 #[.agg #[.int .i64 a, .int .i64 b, .int .i64 c, .int .i64 d, .slice ao n cp], .int .i64 x, .int .i64 y] w fun r w' => r = .returned (.int .i64 (bitsI a b c d n f x y)) ∧ Below w.heap.size w w' := by
  have EM := hide (fun u P => specMaskOk_any a b c d f ao n cp hn u P)
  have EL := hide (fun (h : maskOkB a b c d n f = true) u P => specL11Bits_any a b c d f ao n cp hn x y u P (maskOk_iff.1 h))
  have hB : Hid (bitsI a b c d n f x y = if maskOkB a b c d n f = true then atI a b c d f x y else 0) := rfl
  replace P := hide P
  generalize maskOkB a b c d n f = mo at EM EL hB
  generalize bitsI a b c d n f x y = V at hB ⊢
  generalize atI a b c d f x y = A at EL hB
  go_enter Try.func19, Try.ntmps19
  go_upto_region 1 with fail
  have R := hide (new_row w (.cells #[.int .i64 a, .int .i64 b, .int .i64 c, .int .i64 d, .slice ao n cp] 44))
  have HB := hide (al1_below w (.cells #[.int .i64 a, .int .i64 b, .int .i64 c, .int .i64 d, .slice ao n cp] 44))
  obtain ⟨b1, hb1⟩ : ∃ b, Hid (b = w.heap.size) := ⟨_, rfl⟩
  rw [← unhide hb1] at R
  rw [← unhide hb1]
  generalize w.alloc (.cells #[.int .i64 a, .int .i64 b, .int .i64 c, .int .i64 d, .slice ao n cp] 44) = W at R HB ⊢
  obtain ⟨r0, r1, r2, r3, r4⟩ := row5m (unhide R)
  have EM1 := hide (unhide EM W (fun i hi => (unhide P i hi).next (unhide HB)))
  go_wp2_with fail
  go_fit (unhide EM1)
  rintro r u1 ⟨rfl, hb⟩
  replace R := hide (row_next hb (unhide R))
  replace HB := hide (below_two (unhide HB) hb)
  clear hb r0 r1 r2 r3 r4
  cases mo with
  | false =>
    have hV : Hid (0 = V) := by unfold Hid; rw [unhide hB]; simp
    go_wp2_with fail
    go_ret
    exact ⟨ret_i (unhide hV), unhide HB⟩
  | true =>
    have hV : Hid (A = V) := by unfold Hid; rw [unhide hB]; simp
    have EL1 := hide (unhide EL (by trivial) u1 (fun i hi => (unhide P i hi).next (unhide HB)))
    obtain ⟨r0, r1, r2, r3, r4⟩ := row5m (unhide R)
    go_wp2_with fail
    go_fit (unhide EL1)
    rintro r u2 ⟨rfl, hb⟩
    go_wp2_with fail
    go_ret
    exact ⟨ret_i (unhide hV), below_two (unhide HB) hb⟩
end Go.Proofs.Ytmomgbnhildpdab
