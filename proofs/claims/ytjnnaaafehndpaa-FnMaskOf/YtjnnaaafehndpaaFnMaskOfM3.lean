/-
  MaskS · MaskG · MeetS · MaskB · WindS · WindM · MaskO · MaskT: texts of one claim, in one.
-/
import Derived.Test.YtjnnaaafehndpaaFnMaskOfM2
import Derived.Laws.StructEq
import Derived.Deep.DeepFit
import Derived.Deep.AppendLies
import Derived.Deep.RegionHeld3
import Derived.Deep.DeepCutAuto

/-
  The specification's masks: boxes that they may have, right ones, the bits of a square. (By masks.py.)
-/
namespace Go.Proofs.Ytjnnaaafehndpaa
open Go.RowKit
set_option linter.unusedVariables false

theorem row5m {w1 : World} {b : Nat} {x0 x1 x2 x3 x4 : Value} {t : TypeId} (h : w1.heap[b]? = some (.cells #[x0, x1, x2, x3, x4] t (0, 0))) : w1.cell? ⟨b, 0, none⟩ = some x0 ∧ w1.cell? ⟨b, 1, none⟩ = some x1 ∧ w1.cell? ⟨b, 2, none⟩ = some x2 ∧ w1.cell? ⟨b, 3, none⟩ = some x3 ∧ w1.cell? ⟨b, 4, none⟩ = some x4 := by
  refine ⟨?_, ?_, ?_, ?_, ?_⟩ <;> simp [World.cell?, h]

theorem ret_i {a b : Int} (h : a = b) : Ending.returned (.int .i64 a) = .returned (.int .i64 b) := by rw [h]

set_option maxHeartbeats 4000000 in
set_option maxRecDepth 100000 in
theorem specL11Box_any (a b c d : Int) (w : World) :
    Calls Try.prog 51 #[.agg #[.int .i64 a, .int .i64 b, .int .i64 c, .int .i64 d]] w fun r w' => r = .returned (.bool (boxInB a b c d)) ∧ Below w.heap.size w w' := by
  have E0 := hide (specEmpty_any a b c d)
  have EA := hide (l01In_any a (-2000) 2000)
  have EB := hide (l01In_any b (-2000) 2000)
  have EC := hide (l01In_any c (-2000) 2000)
  have ED := hide (l01In_any d (-2000) 2000)
  have H : Hid ((!emptyB a b c d && (inB a (-2000) 2000 && (inB b (-2000) 2000 && (inB c (-2000) 2000 && (inB d (-2000) 2000 && (decide (c - a ≤ 60) && decide (d - b ≤ 60))))))) = boxInB a b c d) := rfl
  have w1 : Hid (inB a (-2000) 2000 = true → inB c (-2000) 2000 = true → IntKind.i64.wrap (c - a) = c - a) := fun h1 h2 => by
    rw [inB_true] at h1 h2; exact IntWalk.i64_in _ (by omega)
  have w2 : Hid (inB b (-2000) 2000 = true → inB d (-2000) 2000 = true → IntKind.i64.wrap (d - b) = d - b) := fun h1 h2 => by
    rw [inB_true] at h1 h2; exact IntWalk.i64_in _ (by omega)
  generalize emptyB a b c d = e0 at E0 H
  generalize inB a (-2000) 2000 = i1 at EA H w1
  generalize inB b (-2000) 2000 = i2 at EB H w2
  generalize inB c (-2000) 2000 = i3 at EC H w1
  generalize inB d (-2000) 2000 = i4 at ED H w2
  generalize boxInB a b c d = X at H ⊢
  go_enter Try.func51, Try.ntmps51
  go_upto_region 1 with fail
  have R := hide (new_row w (.cells #[.int .i64 a, .int .i64 b, .int .i64 c, .int .i64 d] 25))
  have HB := hide (al1_below w (.cells #[.int .i64 a, .int .i64 b, .int .i64 c, .int .i64 d] 25))
  obtain ⟨b1, hb1⟩ : ∃ b, Hid (b = w.heap.size) := ⟨_, rfl⟩
  rw [← unhide hb1] at R
  rw [← unhide hb1]
  generalize w.alloc (.cells #[.int .i64 a, .int .i64 b, .int .i64 c, .int .i64 d] 25) = W at R HB ⊢
  obtain ⟨r0, r1, r2, r3⟩ := row4 (unhide R)
  go_wp2_with fail
  go_fit (unhide E0 _)
  rintro r u1 ⟨rfl, hb⟩
  replace R := hide (row_next hb (unhide R))
  replace HB := hide (below_two (unhide HB) hb)
  clear hb r0 r1 r2 r3
  obtain ⟨r0, r1, r2, r3⟩ := row4 (unhide R)
  cases e0 with
  | true =>
    go_wp2_with fail
    go_ret
    exact ⟨ret_bool (unhide H), unhide HB⟩
  | false =>
    go_wp2_with fail
    go_fit (unhide EA _)
    rintro r u2 ⟨rfl, rfl⟩
    cases i1 with
    | false =>
      go_wp2_with fail
      go_ret
      exact ⟨ret_bool (unhide H), unhide HB⟩
    | true =>
      go_wp2_with fail
      go_fit (unhide EB _)
      rintro r u2 ⟨rfl, rfl⟩
      cases i2 with
      | false =>
        go_wp2_with fail
        go_ret
        exact ⟨ret_bool (unhide H), unhide HB⟩
      | true =>
        go_wp2_with fail
        go_fit (unhide EC _)
        rintro r u2 ⟨rfl, rfl⟩
        cases i3 with
        | false =>
          go_wp2_with fail
          go_ret
          exact ⟨ret_bool (unhide H), unhide HB⟩
        | true =>
          go_wp2_with fail
          go_fit (unhide ED _)
          rintro r u2 ⟨rfl, rfl⟩
          cases i4 with
          | false =>
            go_wp2_with fail
            go_ret
            exact ⟨ret_bool (unhide H), unhide HB⟩
          | true =>
            have w1' := unhide w1 (by trivial) (by trivial)
            have w2' := unhide w2 (by trivial) (by trivial)
            by_cases h1 : c - a ≤ 60
            · have hX : Hid ((decide (c - a ≤ 60) && decide (d - b ≤ 60)) = X) := unhide H
              rw [decide_eq_true h1] at hX
              go_wp2_with fail
              go_ret
              exact ⟨ret_bool (unhide hX), unhide HB⟩
            · have hX : Hid ((decide (c - a ≤ 60) && decide (d - b ≤ 60)) = X) := unhide H
              rw [decide_eq_false h1] at hX
              go_wp2_with fail
              go_ret
              exact ⟨ret_bool (unhide hX), unhide HB⟩

theorem mok_zero {a b c d : Int} {f : Nat → Int} : MOk a b c d 0 f ↔ a = 0 ∧ b = 0 ∧ c = 0 ∧ d = 0 :=
  ⟨fun h => by rcases h with ⟨_, h⟩ | ⟨h, _⟩; exact h; omega, fun h => .inl ⟨rfl, h⟩⟩
theorem mok_some {a b c d : Int} {n : Nat} {f : Nat → Int} (hn : n ≠ 0) : MOk a b c d n f ↔ boxInB a b c d = true ∧ n = sqN a b c d ∧ ∀ i, i < n → inB (f i) 0 15 = true :=
  ⟨fun h => by rcases h with ⟨h, _⟩ | ⟨_, h⟩; exact absurd h hn; exact h, fun h => .inr ⟨by omega, h⟩⟩
theorem bits_more {f : Nat → Int} {k : Nat} (h : ∀ j, j < k → inB (f j) 0 15 = true) (hk : inB (f k) 0 15 = true) : ∀ j, j < k + 1 → inB (f j) 0 15 = true := by
  intro j hj
  by_cases e : j = k
  · subst e; exact hk
  · exact h j (by omega)
theorem eqZero_yes (w : World) : (binOp .eql 25 (.agg #[.int .i64 0, .int .i64 0, .int .i64 0, .int .i64 0]) (.agg #[.int .i64 0, .int .i64 0, .int .i64 0, .int .i64 0])).run Try.prog w = .ok (.bool true) w := by kernel_rfl
theorem eqZero_d (w : World) (d : Int) (h : ¬ d = 0) : (binOp .eql 25 (.agg #[.int .i64 0, .int .i64 0, .int .i64 0, .int .i64 d]) (.agg #[.int .i64 0, .int .i64 0, .int .i64 0, .int .i64 0])).run Try.prog w = .ok (.bool false) w := by
  cases d with
  | ofNat n =>
    cases n with
    | zero => exact absurd rfl h
    | succ n => kernel_rfl
  | negSucc n => kernel_rfl
theorem eqZero_no (w : World) (a b c d : Int) (h : ¬ (a = 0 ∧ b = 0 ∧ c = 0 ∧ d = 0)) : (binOp .eql 25 (.agg #[.int .i64 a, .int .i64 b, .int .i64 c, .int .i64 d]) (.agg #[.int .i64 0, .int .i64 0, .int .i64 0, .int .i64 0])).run Try.prog w = .ok (.bool false) w := by
  by_cases ha : a = 0
  · subst ha
    by_cases hb : b = 0
    · subst hb
      by_cases hc : c = 0
      · subst hc
        exact eqZero_d w d (fun hd => h ⟨rfl, rfl, rfl, hd⟩)
      · cases c with
        | ofNat n =>
          cases n with
          | zero => exact absurd rfl hc
          | succ n => kernel_rfl
        | negSucc n => kernel_rfl
    · cases b with
      | ofNat n =>
        cases n with
        | zero => exact absurd rfl hb
        | succ n => kernel_rfl
      | negSucc n => kernel_rfl
  · cases a with
    | ofNat n =>
      cases n with
      | zero => exact absurd rfl ha
      | succ n => kernel_rfl
    | negSucc n => kernel_rfl

attribute [local go_sem ↓] eqZero_yes eqZero_no in
set_option maxHeartbeats 4000000 in
set_option maxRecDepth 100000 in
theorem specMaskOk_any (a b c d : Int) (f : Nat → Int) (ao : Option Addr) (n cp : Nat) (hn : n ≤ 1048576) (w : World) (P : ∀ i, i < n → IntAt w ao i (f i)) :
    Calls Try.prog 25 #[.agg #[.int .i64 a, .int .i64 b, .int .i64 c, .int .i64 d, .slice ao n cp]] w fun r w' => r = .returned (.bool (maskOkB a b c d n f)) ∧ Below w.heap.size w w' := by
  have EB := hide (specL11Box_any a b c d)
  replace P := hide P
  by_cases h0 : n = 0
  · subst h0
    by_cases hz : a = 0 ∧ b = 0 ∧ c = 0 ∧ d = 0
    · rw [maskOk_iff.2 (mok_zero.2 hz)]
      obtain ⟨rfl, rfl, rfl, rfl⟩ := hz
      go_enter Try.func25, Try.ntmps25
      go_wp2_with fail
      go_ret
      exact ⟨rfl, al1_below _ _⟩
    · rw [maskOk_no (fun h => hz (mok_zero.1 h))]
      go_enter Try.func25, Try.ntmps25
      go_wp2_with fail
      go_ret
      exact ⟨rfl, al1_below _ _⟩
  have h0i : ((n : Int) == 0) = false := beq_eq_false_iff_ne.2 (by omega)
  have hmo : Hid (MOk a b c d n f ↔ boxInB a b c d = true ∧ n = sqN a b c d ∧ ∀ i, i < n → inB (f i) 0 15 = true) := mok_some h0
  have hyes : Hid (MOk a b c d n f → maskOkB a b c d n f = true) := fun h => maskOk_iff.2 h
  have hno : Hid (¬ MOk a b c d n f → maskOkB a b c d n f = false) := fun h => maskOk_no h
  generalize maskOkB a b c d n f = X at hyes hno ⊢
  generalize MOk a b c d n f = M at hyes hno hmo
  have hsq : Hid (boxInB a b c d = true → (n = sqN a b c d ↔ (n : Int) = (c - a) * (d - b)) ∧ IntKind.i64.wrap (c - a) = c - a ∧ IntKind.i64.wrap (d - b) = d - b ∧ IntKind.i64.wrap ((c - a) * (d - b)) = (c - a) * (d - b)) := fun h => by
    have e := sqN_int h
    have e2 := (sqN_le h).1
    obtain ⟨_, _, _, _, _, _, _, _⟩ := boxIn_iff.1 h
    refine ⟨by rw [← e]; omega, IntWalk.i64_in _ (by omega), IntWalk.i64_in _ (by omega), IntWalk.i64_in _ (by rw [← e]; omega)⟩
  generalize sqN a b c d = sq at hmo hsq
  generalize boxInB a b c d = bi at EB hmo hsq
  go_enter Try.func25, Try.ntmps25
  go_upto_region 1 with fail
  have R := hide (new_row w (.cells #[.int .i64 a, .int .i64 b, .int .i64 c, .int .i64 d, .slice ao n cp] 28))
  have HB := hide (al1_below w (.cells #[.int .i64 a, .int .i64 b, .int .i64 c, .int .i64 d, .slice ao n cp] 28))
  obtain ⟨b1, hb1⟩ : ∃ b, Hid (b = w.heap.size) := ⟨_, rfl⟩
  rw [← unhide hb1] at R
  rw [← unhide hb1]
  generalize w.alloc (.cells #[.int .i64 a, .int .i64 b, .int .i64 c, .int .i64 d, .slice ao n cp] 28) = W at R HB ⊢
  obtain ⟨r0, r1, r2, r3, r4⟩ := row5m (unhide R)
  go_wp2_with fail
  go_fit (unhide EB _)
  rintro r u1 ⟨rfl, hb⟩
  replace R := hide (row_next hb (unhide R))
  replace HB := hide (below_two (unhide HB) hb)
  clear hb r0 r1 r2 r3 r4
  obtain ⟨r0, r1, r2, r3, r4⟩ := row5m (unhide R)
  cases bi with
  | false =>
    have hX := hide (unhide hno (fun h => by have := (unhide hmo).1 h; cases this.1))
    go_wp2_with fail
    go_ret
    exact ⟨ret_bool (unhide hX).symm, unhide HB⟩
  | true =>
    obtain ⟨hs1, w1, w2, w3⟩ := unhide hsq rfl
    replace hs1 := hide hs1
    clear hsq
    by_cases hq : (n : Int) = (c - a) * (d - b)
    · have hq1 := hide hq
      have hqb : ((n : Int) == (c - a) * (d - b)) = true := beq_iff_eq.2 hq
      rw [← hq] at w3
      go_upto_region 5 with fail
      go_wp2_with fail
      clear r0 r1 r2 r3 r4 w1 w2 w3 hqb hq
      go_loopw [3] (fun i u => ∃ k : Nat, k ≤ n ∧ i = .int .i64 k ∧ Hid (∀ j, j < k → inB (f j) 0 15 = true) ∧ Hid (Below w.heap.size w u) ∧ Hid (u.heap[b1]? = some (.cells #[.int .i64 a, .int .i64 b, .int .i64 c, .int .i64 d, .slice ao n cp] 28 (0, 0)))) (fun i _ => n - (intOf i).toNat)
      case atStart => exact ⟨0, Nat.zero_le _, rfl, fun j hj => absurd hj (by omega), HB, R⟩
      case round =>
        clear HB R
        obtain ⟨k, hk, rfl, HK, HB, R⟩ := hrel
        obtain ⟨r0, r1, r2, r3, r4⟩ := row5m (unhide R)
        by_cases hlt : k < n
        · obtain ⟨s0, o0, rfl, g0⟩ := (unhide P k hlt).next (unhide HB)
          have EI := hide (l01In_any (f k) 0 15)
          obtain ⟨z, hz⟩ : ∃ z, Hid (f k = z) := ⟨_, rfl⟩
          rw [unhide hz] at g0 EI
          have hki : (k : Int) < (n : Int) := by omega
          cases hi : inB z 0 15 with
          | false =>
            rw [hi] at EI
            have hX := hide (unhide hno (fun h => by have := ((unhide hmo).1 h).2.2 k hlt; rw [unhide hz, hi] at this; cases this))
            clear hi
            go_wp2_with fail
            go_fit (unhide EI _)
            rintro r u2 ⟨rfl, rfl⟩
            go_wp2_with fail
            go_ret
            exact ⟨ret_bool (unhide hX).symm, unhide HB⟩
          | true =>
            rw [hi] at EI
            have HK2 : Hid (∀ j, j < k + 1 → inB (f j) 0 15 = true) := bits_more (unhide HK) (by rw [unhide hz]; exact hi)
            clear hi
            go_wp2_with fail
            go_fit (unhide EI _)
            rintro r u2 ⟨rfl, rfl⟩
            go_wp2_with fail
            go_roundw
            case rel => exact ⟨k + 1, by omega, by go_num, HK2, HB, R⟩
            case measure => simp [intOf]; omega
        · have hke : k = n := by omega
          subst hke
          have hki : ¬ (k : Int) < (k : Int) := by omega
          have hX := hide (unhide hyes ((unhide hmo).2 ⟨by trivial, (unhide hs1).2 (unhide hq1), unhide HK⟩))
          go_wp2_with fail
          go_ret
          exact ⟨ret_bool (unhide hX).symm, unhide HB⟩
    · have hX := hide (unhide hno (fun h => hq ((unhide hs1).1 ((unhide hmo).1 h).2.1)))
      have hqb : ((n : Int) == (c - a) * (d - b)) = false := beq_eq_false_iff_ne.2 hq
      go_wp2_with fail
      go_ret
      exact ⟨ret_bool (unhide hX).symm, unhide HB⟩

set_option maxHeartbeats 4000000 in
set_option maxRecDepth 100000 in
theorem specL11Bits_any (a b c d : Int) (f : Nat → Int) (ao : Option Addr) (n cp : Nat) (hn : n ≤ 1048576) (x y : Int) (w : World) (P : ∀ i, i < n → IntAt w ao i (f i)) (hM : MOk a b c d n f) :
    Calls Try.prog 59 #[.agg #[.int .i64 a, .int .i64 b, .int .i64 c, .int .i64 d, .slice ao n cp], .int .i64 x, .int .i64 y] w fun r w' => r = .returned (.int .i64 (atI a b c d f x y)) ∧ Below w.heap.size w w' := by
  have EI := hide (specInBox_any a b c d x y)
  have hA : Hid (atI a b c d f x y = if inBoxB a b c d x y = true then f (placeI a b c x y).toNat else 0) := rfl
  have hin : Hid (inBoxB a b c d x y = true → boxInB a b c d = true ∧ n = sqN a b c d ∧ 0 ≤ placeI a b c x y ∧ placeI a b c x y < (n : Int) ∧ (a ≤ x ∧ x < c ∧ b ≤ y ∧ y < d)) := fun h => by
    have hi := h
    simp only [inBoxB, Bool.and_eq_true, decide_eq_true_eq] at hi
    rcases hM with ⟨_, rfl, rfl, rfl, rfl⟩ | ⟨_, h1, h2, _⟩
    · omega
    · obtain ⟨p1, p2⟩ := place_bd h1 h
      exact ⟨h1, h2, p1, by omega, hi⟩
  replace P := hide P
  clear hM
  generalize inBoxB a b c d x y = ib at EI hA hin
  generalize atI a b c d f x y = V at hA ⊢
  go_enter Try.func59, Try.ntmps59
  go_upto_region 2 with fail
  have R3 := hide (al2_0 w (.cells #[.int .i64 a, .int .i64 b, .int .i64 c, .int .i64 d, .slice ao n cp] 28) (.cells #[.int .i64 a, .int .i64 b, .int .i64 c, .int .i64 d] 25))
  have R7 := hide (al2_1 w (.cells #[.int .i64 a, .int .i64 b, .int .i64 c, .int .i64 d, .slice ao n cp] 28) (.cells #[.int .i64 a, .int .i64 b, .int .i64 c, .int .i64 d] 25))
  have HB := hide (al2_below w (.cells #[.int .i64 a, .int .i64 b, .int .i64 c, .int .i64 d, .slice ao n cp] 28) (.cells #[.int .i64 a, .int .i64 b, .int .i64 c, .int .i64 d] 25))
  generalize w.heap.size + 1 = b7 at R7 ⊢
  obtain ⟨b3, hb3⟩ : ∃ b, Hid (b = w.heap.size) := ⟨_, rfl⟩
  rw [← unhide hb3] at R3
  rw [← unhide hb3]
  generalize (w.alloc (.cells #[.int .i64 a, .int .i64 b, .int .i64 c, .int .i64 d, .slice ao n cp] 28)).alloc (.cells #[.int .i64 a, .int .i64 b, .int .i64 c, .int .i64 d] 25) = W at R3 R7 HB ⊢
  obtain ⟨q0, q1, q2, q3⟩ := row4 (unhide R7)
  go_wp2_with fail
  go_fit (unhide EI _)
  rintro r u1 ⟨rfl, hb⟩
  replace R3 := hide (row_next hb (unhide R3))
  replace R7 := hide (row_next hb (unhide R7))
  replace HB := hide (below_two (unhide HB) hb)
  clear hb q0 q1 q2 q3
  cases ib with
  | false =>
    have hV : Hid (0 = V) := by unfold Hid; rw [unhide hA]; simp
    go_wp2_with fail
    go_ret
    exact ⟨ret_i (unhide hV), unhide HB⟩
  | true =>
    obtain ⟨h1, h2, h3, h4, h5⟩ := unhide hin (by trivial)
    clear hin
    replace hA : Hid (V = f (placeI a b c x y).toNat) := by unfold Hid; rw [unhide hA]; simp
    obtain ⟨_, _, h6, h7, h8, h9, h10, h11⟩ := boxIn_iff.1 h1
    obtain ⟨q0, q1, q2, q3⟩ := row4 (unhide R7)
    obtain ⟨r0, r1, r2, r3, r4⟩ := row5m (unhide R3)
    obtain ⟨j, hj⟩ : ∃ j : Nat, placeI a b c x y = (j : Int) := ⟨(placeI a b c x y).toNat, by omega⟩
    rw [hj] at h3 h4 hA
    have hjn : j < n := by omega
    have e0 : ((j : Int)).toNat = j := by omega
    rw [e0] at hA
    unfold placeI at hj
    have m1 : 0 ≤ (y - b) * (c - a) ∧ (y - b) * (c - a) ≤ 3600 := by
      have := mul_bd (A := 60) (X := 60) (a := y - b) (x := c - a) (by omega) (by omega) (by omega) (by omega)
      have := Int.mul_nonneg (a := y - b) (b := c - a) (by omega) (by omega)
      omega
    have v1 : IntKind.i64.wrap (y - b) = y - b := IntWalk.i64_in _ (by omega)
    have v2 : IntKind.i64.wrap (c - a) = c - a := IntWalk.i64_in _ (by omega)
    have v3 : IntKind.i64.wrap ((y - b) * (c - a)) = (y - b) * (c - a) := IntWalk.i64_in _ (by omega)
    have v4 : IntKind.i64.wrap ((y - b) * (c - a) + x) = (y - b) * (c - a) + x := IntWalk.i64_in _ (by omega)
    have v5 : IntKind.i64.wrap ((y - b) * (c - a) + x - a) = (j : Int) := by rw [← hj]; exact IntWalk.i64_in _ (by omega)
    obtain ⟨s0, o0, rfl, g0⟩ := (unhide P j hjn).next (unhide HB)
    clear h1 h2 h5 h6 h7 h8 h9 h10 h11 m1 hj e0
    go_wp2_with fail
    go_ret
    exact ⟨ret_i (unhide hA).symm, unhide HB⟩

set_option maxHeartbeats 4000000 in
theorem specBitsAt_any (a b c d : Int) (f : Nat → Int) (ao : Option Addr) (n cp : Nat) (hn : n ≤ 1048576) (x y : Int) (w : World) (P : ∀ i, i < n → IntAt w ao i (f i)) :
    Calls Try.prog 35 #[.agg #[.int .i64 a, .int .i64 b, .int .i64 c, .int .i64 d, .slice ao n cp], .int .i64 x, .int .i64 y] w fun r w' => r = .returned (.int .i64 (bitsI a b c d n f x y)) ∧ Below w.heap.size w w' := by
  have EM := hide (fun u P => specMaskOk_any a b c d f ao n cp hn u P)
  have EL := hide (fun (h : maskOkB a b c d n f = true) u P => specL11Bits_any a b c d f ao n cp hn x y u P (maskOk_iff.1 h))
  have hB : Hid (bitsI a b c d n f x y = if maskOkB a b c d n f = true then atI a b c d f x y else 0) := rfl
  replace P := hide P
  generalize maskOkB a b c d n f = mo at EM EL hB
  generalize bitsI a b c d n f x y = V at hB ⊢
  generalize atI a b c d f x y = A at EL hB
  go_enter Try.func35, Try.ntmps35
  go_upto_region 1 with fail
  have R := hide (new_row w (.cells #[.int .i64 a, .int .i64 b, .int .i64 c, .int .i64 d, .slice ao n cp] 28))
  have HB := hide (al1_below w (.cells #[.int .i64 a, .int .i64 b, .int .i64 c, .int .i64 d, .slice ao n cp] 28))
  obtain ⟨b1, hb1⟩ : ∃ b, Hid (b = w.heap.size) := ⟨_, rfl⟩
  rw [← unhide hb1] at R
  rw [← unhide hb1]
  generalize w.alloc (.cells #[.int .i64 a, .int .i64 b, .int .i64 c, .int .i64 d, .slice ao n cp] 28) = W at R HB ⊢
  obtain ⟨r0, r1, r2, r3, r4⟩ := row5m (unhide R)
  have EM1 := hide (unhide EM W (fun i hi => (unhide P i hi).next (unhide HB)))
  go_wp2_with fail
  go_fit (unhide EM1)
  rintro r u1 ⟨rfl, hb⟩
  replace R := hide (row_next hb (unhide R))
  replace HB := hide (below_two (unhide HB) hb)
  clear hb r0 r1 r2 r3 r4
  cases mo with
  | false =>
    have hV : Hid (0 = V) := by unfold Hid; rw [unhide hB]; simp
    go_wp2_with fail
    go_ret
    exact ⟨ret_i (unhide hV), unhide HB⟩
  | true =>
    have hV : Hid (A = V) := by unfold Hid; rw [unhide hB]; simp
    have EL1 := hide (unhide EL (by trivial) u1 (fun i hi => (unhide P i hi).next (unhide HB)))
    obtain ⟨r0, r1, r2, r3, r4⟩ := row5m (unhide R)
    go_wp2_with fail
    go_fit (unhide EL1)
    rintro r u2 ⟨rfl, hb⟩
    go_wp2_with fail
    go_ret
    exact ⟨ret_i (unhide hV), below_two (unhide HB) hb⟩
end Go.Proofs.Ytjnnaaafehndpaa

/-
  A mask while its bits are appended; a mask that a call hands back.
-/
namespace Go.Proofs.Ytjnnaaafehndpaa
open Go.RowKit
set_option linter.unusedVariables false

/-- A call hands back a mask of its own. -/
def MaskRes (w : World) (r : Ending) (w' : World) (a b c d : Int) (n : Nat) (f : Nat → Int) : Prop :=
  ∃ p cp, r = .returned (.agg #[.int .i64 a, .int .i64 b, .int .i64 c, .int .i64 d, .slice p n cp]) ∧ w'.ownsRow w.heap.size 3 1 (.slice p n cp) n ((listN f n).map Iv) ∧ Below w.heap.size w w'
theorem listN_congr {α : Type} {f g : Nat → α} {n : Nat} (h : ∀ i, i < n → f i = g i) : listN f n = listN g n := by
  unfold listN; exact List.map_congr_left (fun i hi => h i (List.mem_range.1 hi))
theorem MaskRes.congr {w w' : World} {r : Ending} {a b c d : Int} {n : Nat} {f g : Nat → Int} (h : MaskRes w r w' a b c d n f) (e : ∀ i, i < n → f i = g i) : MaskRes w r w' a b c d n g := by
  unfold MaskRes at h ⊢; rw [listN_congr e] at h; exact h
theorem frozen5 {w1 : World} {b : Nat} {x0 x1 x2 x3 x4 : Value} {t : TypeId} (h : w1.heap[b]? = some (.cells #[x0, x1, x2, x3, x4] t (0, 0))) : w1.frozen? ⟨b, 0, none⟩ = false ∧ w1.frozen? ⟨b, 1, none⟩ = false ∧ w1.frozen? ⟨b, 2, none⟩ = false ∧ w1.frozen? ⟨b, 3, none⟩ = false ∧ w1.frozen? ⟨b, 4, none⟩ = false := by
  refine ⟨?_, ?_, ?_, ?_, ?_⟩ <;> simp [World.frozen?, h]
theorem set5_4 {u : World} {b : Nat} {x0 x1 x2 x3 x4 v : Value} {t : TypeId} (h : u.heap[b]? = some (.cells #[x0, x1, x2, x3, x4] t (0, 0))) : (u.setCell ⟨b, 4, none⟩ v).heap[b]? = some (.cells #[x0, x1, x2, x3, v] t (0, 0)) := by
  simp [World.setCell, Array.getElem?_modify, h]
theorem below_put5 {B : Nat} {a w : World} (h : Below B a w) {b : Nat} (hb : B ≤ b) (x y z u v : Value) : Below B a (((((w.setCell ⟨b, 0, none⟩ x).setCell ⟨b, 1, none⟩ y).setCell ⟨b, 2, none⟩ z).setCell ⟨b, 3, none⟩ u).setCell ⟨b, 4, none⟩ v) := (below_put4 h hb x y z u).setCell (p := ⟨b, 4, none⟩) hb v
theorem own_put5 {w : World} {base e s n g : Nat} {v : Value} {xs : List Value} (h : w.ownsRow base e s v n xs) (hg : ∀ k, v.ownBlock = some k → k ≠ g) (x y z u t : Value) : (((((w.setCell ⟨g, 0, none⟩ x).setCell ⟨g, 1, none⟩ y).setCell ⟨g, 2, none⟩ z).setCell ⟨g, 3, none⟩ u).setCell ⟨g, 4, none⟩ t).ownsRow base e s v n xs :=
  own_setc_ne (own_setc_ne (own_setc_ne (own_setc_ne (own_setc_ne h hg) hg) hg) hg) hg

structure Grow (w u : World) (zb ob : Nat) (a b c d : Int) (f : Nat → Int) (k : Nat) (p : Option Addr) (cp : Nat) : Prop where
  zero : u.heap[zb]? = some (.cells #[.int .i64 0, .int .i64 0, .int .i64 0, .int .i64 0, .slice none 0 0] 28 (0, 0))
  row : u.heap[ob]? = some (.cells #[.int .i64 a, .int .i64 b, .int .i64 c, .int .i64 d, .slice p k cp] 28 (0, 0))
  own : u.ownsRow (ob + 1) 3 1 (.slice p k cp) k ((listN f k).map Iv)
  bel : Below w.heap.size w u
  size : ob + 1 ≤ u.heap.size
theorem Grow.next {w u u' : World} {zb ob : Nat} {a b c d : Int} {f : Nat → Int} {k : Nat} {p : Option Addr} {cp : Nat} (h : Grow w u zb ob a b c d f k p cp) (hb : Below u.heap.size u u') : Grow w u' zb ob a b c d f k p cp :=
  ⟨row_next hb h.zero, row_next hb h.row, own_below h.own hb, below_two h.bel hb, Nat.le_trans h.size hb.size⟩
theorem Grow.put {w u w6 : World} {zb ob : Nat} {a b c d : Int} {f : Nat → Int} {k : Nat} {p : Option Addr} {cp : Nat} (h : Grow w u zb ob a b c d f k p cp) (hw : w.heap.size ≤ ob) (hz : zb < ob) {p' : Option Addr} {cp' : Nat} {z : Int} (hzf : f k = z)
    (O6 : w6.ownsRow (ob + 1) 3 1 (.slice p' (k + 1) cp') (k + 1) ((listN f k).map Iv ++ [Iv z])) (D6 : Below (ob + 1) u w6) : Grow w (w6.setCell ⟨ob, 4, none⟩ (.slice p' (k + 1) cp')) zb ob a b c d f (k + 1) p' cp' := by
  refine ⟨setc_other (by omega) ((D6.block _ (by omega)).trans h.zero), set5_4 ((D6.block _ (Nat.lt_succ_self _)).trans h.row), ?_, ?_, ?_⟩
  · have := own_setc_ne (g := ob) (j := 4) (u := .slice p' (k + 1) cp') O6 (fun q hq => by have := (O6.lt q hq).1; omega)
    rw [listN_more, List.map_append, hzf]
    exact this
  · exact (h.bel.trans (D6.mono (by omega))).setCell (p := ⟨ob, 4, none⟩) hw _
  · rw [setc_size]; exact Nat.le_trans h.size D6.size
/-- It is handed back. -/
theorem Grow.res {w u : World} {zb ob : Nat} {a b c d : Int} {f : Nat → Int} {k : Nat} {p : Option Addr} {cp : Nat} (h : Grow w u zb ob a b c d f k p cp) (hw : w.heap.size ≤ zb) (hz : zb < ob) {v0 v1 v2 v3 v4 : Value} :
    MaskRes w (.returned (.agg #[.int .i64 a, .int .i64 b, .int .i64 c, .int .i64 d, .slice p k cp])) (((((u.setCell ⟨zb, 0, none⟩ v0).setCell ⟨zb, 1, none⟩ v1).setCell ⟨zb, 2, none⟩ v2).setCell ⟨zb, 3, none⟩ v3).setCell ⟨zb, 4, none⟩ v4) a b c d k f :=
  ⟨p, cp, rfl, own_low (own_put5 h.own (fun q hq => by have := (h.own.lt q hq).1; omega) _ _ _ _ _) (by omega), below_put5 h.bel hw _ _ _ _ _⟩
theorem mask_none {w w' : World} {f : Nat → Int} (hb : Below w.heap.size w w') : MaskRes w (.returned (.agg #[.int .i64 0, .int .i64 0, .int .i64 0, .int .i64 0, .slice none 0 0])) w' 0 0 0 0 0 f :=
  ⟨none, 0, rfl, World.ownsRow_nil _ _ _ _, hb⟩
/-- What stands in a box, or nothing. -/
def boxV (ok : Bool) (x : Int) : Int := if ok then x else 0
def boxK (ok : Bool) (n : Nat) : Nat := if ok then n else 0
/-- 'append' of one number onto an own row, as one step of a region that draws its order. -/
theorem step_append_i {P : Program} {ops : Array Oper} {o : Oper} {a : Act} {wr w5 : World} {K : Act → World → Prop} {Q : Exit → Act → World → Prop} {E : Prop} (hg : o.guard = none) (s x : Operand) (t : TypeId)
    (hop : o.op = .call { callee := .builtin .append, args := #[s, x], argTypes := #[t, t] })
    (base : Nat) (i : TypeInfo) (z0 : Value) (ht : P.underlying t = some (.slice 3)) (hi : P.info? 3 = some i) (hz : i.zero = some z0) (hsize : i.size = 1) (hby : i.bytes = 8) (hzs : z0.cells.size = 1)
    (v : Value) (n : Nat) (xs : List Value) (hs : a.eval s = v) (z : Int) (cx : Nat) (hx : a.eval x = .slice (some ⟨w5.heap.size, 0, none⟩) 1 cx)
    (hown : wr.ownsRow base 3 1 v n xs) (hn : n ≤ 1048576) (hbs : base ≤ wr.heap.size) (hd : Below wr.heap.size wr w5)
    (hK : ∀ v' w', w'.ownsRow base 3 1 v' (n + 1) (xs ++ [Iv z]) → Below base wr w' → K (a.put o.dst v') w') :
    if Region.wanted o (yielded ops a.tmps) = true then Oper.wp P o a (w5.alloc (.cells #[.int .i64 z] 3)) K Q else E := by
  refine step_append_any hg s x t 3 hop base i z0 1 8 ht hi hz hsize hby hzs (by decide) v n xs hs ((own_below hown hd).alloc _) ⟨w5.heap.size, 0, none⟩ 1 cx [Iv z] hx (by simp) (fun j u hu => World.news_of_block (al1_0 w5 _) j u (by simpa [Iv] using hu)) (fun u hu => by simp [Iv] at hu; subst hu; rfl) (by unfold maxLen; omega) (by omega) wr base (Nat.le_refl _) (by have := hd.size; simp; omega) (below_new _ (hd.mono hbs) hbs) ?_
  intro v' w' ho hb
  exact hK v' w' ho hb
end Go.Proofs.Ytjnnaaafehndpaa

/-
  The walk of MeetBox (spec).
-/
namespace Go.Proofs.Ytjnnaaafehndpaa
open Go.RowKit

def meetNo (a b c d e f g h : Int) : Bool := emptyB (mostI a e) (mostI b f) (leastI c g) (leastI d h)
def meet0 (a b c d e f g h : Int) : Int := bif meetNo a b c d e f g h then 0 else mostI a e
def meet1 (a b c d e f g h : Int) : Int := bif meetNo a b c d e f g h then 0 else mostI b f
def meet2 (a b c d e f g h : Int) : Int := bif meetNo a b c d e f g h then 0 else leastI c g
def meet3 (a b c d e f g h : Int) : Int := bif meetNo a b c d e f g h then 0 else leastI d h

set_option maxHeartbeats 4000000 in
set_option maxRecDepth 100000 in
theorem specMeetBox_any (a b c d e f g h : Int) (w : World) :
    Calls Try.prog 57 #[.agg #[.int .i64 a, .int .i64 b, .int .i64 c, .int .i64 d], .agg #[.int .i64 e, .int .i64 f, .int .i64 g, .int .i64 h]] w fun r w' => r = .returned (.agg #[.int .i64 (meet0 a b c d e f g h), .int .i64 (meet1 a b c d e f g h), .int .i64 (meet2 a b c d e f g h), .int .i64 (meet3 a b c d e f g h)]) ∧ Below w.heap.size w w' := by
  unfold meet0 meet1 meet2 meet3 meetNo
  have K0 := hide (specMost_any a e)
  have K1 := hide (specMost_any b f)
  have K2 := hide (specLeast_any c g)
  have K3 := hide (specLeast_any d h)
  generalize mostI a e = l0 at K0 ⊢
  generalize mostI b f = l1 at K1 ⊢
  generalize leastI c g = l2 at K2 ⊢
  generalize leastI d h = l3 at K3 ⊢
  have HE := hide (specEmpty_any l0 l1 l2 l3)
  generalize emptyB l0 l1 l2 l3 = p at HE ⊢
  go_enter Try.func57, Try.ntmps57
  go_wp2_with fail
  obtain ⟨W, hW⟩ : ∃ W, W = ((w.alloc (.cells #[.int .i64 a, .int .i64 b, .int .i64 c, .int .i64 d] 25)).alloc (.cells #[.int .i64 e, .int .i64 f, .int .i64 g, .int .i64 h] 25)).alloc (.cells #[.int .i64 0, .int .i64 0, .int .i64 0, .int .i64 0] 25) := ⟨_, rfl⟩
  obtain ⟨a0, a1, a2, a3⟩ := row4 (w1 := W) (b := w.heap.size) (by rw [hW]; exact al3_0 _ _ _ _)
  obtain ⟨b0, b1, b2, b3⟩ := row4 (w1 := W) (b := w.heap.size + 1) (by rw [hW]; exact al3_1 _ _ _ _)
  have R : Hid (W.heap[w.heap.size + 1 + 1]? = some (.cells #[.int .i64 0, .int .i64 0, .int .i64 0, .int .i64 0] 25 (0, 0))) := by unfold Hid; rw [hW]; exact al3_2 _ _ _ _
  have HB := hide (show Below w.heap.size w W by rw [hW]; exact al3_below _ _ _ _)
  rw [← hW]
  clear hW
  have k0 : ∀ u, Below W.heap.size W u → (u.cell? ⟨w.heap.size, 0, none⟩ = some (.int .i64 a) ∧ u.cell? ⟨w.heap.size, 1, none⟩ = some (.int .i64 b) ∧ u.cell? ⟨w.heap.size, 2, none⟩ = some (.int .i64 c) ∧ u.cell? ⟨w.heap.size, 3, none⟩ = some (.int .i64 d) ∧ u.cell? ⟨w.heap.size + 1, 0, none⟩ = some (.int .i64 e) ∧ u.cell? ⟨w.heap.size + 1, 1, none⟩ = some (.int .i64 f) ∧ u.cell? ⟨w.heap.size + 1, 2, none⟩ = some (.int .i64 g) ∧ u.cell? ⟨w.heap.size + 1, 3, none⟩ = some (.int .i64 h) ∧ Below W.heap.size W u) := fun u h => ⟨kc h a0, kc h a1, kc h a2, kc h a3, kc h b0, kc h b1, kc h b2, kc h b3, h⟩
  have kS : ∀ u, (u.cell? ⟨w.heap.size, 0, none⟩ = some (.int .i64 a) ∧ u.cell? ⟨w.heap.size, 1, none⟩ = some (.int .i64 b) ∧ u.cell? ⟨w.heap.size, 2, none⟩ = some (.int .i64 c) ∧ u.cell? ⟨w.heap.size, 3, none⟩ = some (.int .i64 d) ∧ u.cell? ⟨w.heap.size + 1, 0, none⟩ = some (.int .i64 e) ∧ u.cell? ⟨w.heap.size + 1, 1, none⟩ = some (.int .i64 f) ∧ u.cell? ⟨w.heap.size + 1, 2, none⟩ = some (.int .i64 g) ∧ u.cell? ⟨w.heap.size + 1, 3, none⟩ = some (.int .i64 h) ∧ Below W.heap.size W u) → Below W.heap.size W u := fun u h => h.2.2.2.2.2.2.2.2
  go_cut [5] (fun s u => ∃ q, s = .pointer (some ⟨q, 0, none⟩) ∧ u.cell? ⟨q, 0, none⟩ = some (.int .i64 l0) ∧ u.cell? ⟨q, 1, none⟩ = some (.int .i64 l1) ∧ u.cell? ⟨q, 2, none⟩ = some (.int .i64 l2) ∧ u.cell? ⟨q, 3, none⟩ = some (.int .i64 l3) ∧ Below W.heap.size W u)
  case first =>
    go_region_held3 (fun u => u.cell? ⟨w.heap.size, 0, none⟩ = some (.int .i64 a) ∧ u.cell? ⟨w.heap.size, 1, none⟩ = some (.int .i64 b) ∧ u.cell? ⟨w.heap.size, 2, none⟩ = some (.int .i64 c) ∧ u.cell? ⟨w.heap.size, 3, none⟩ = some (.int .i64 d) ∧ u.cell? ⟨w.heap.size + 1, 0, none⟩ = some (.int .i64 e) ∧ u.cell? ⟨w.heap.size + 1, 1, none⟩ = some (.int .i64 f) ∧ u.cell? ⟨w.heap.size + 1, 2, none⟩ = some (.int .i64 g) ∧ u.cell? ⟨w.heap.size + 1, 3, none⟩ = some (.int .i64 h) ∧ Below W.heap.size W u) ((refine k0 _ ?_; first | with_reducible exact (Below.refl _ _).drew | (with_reducible refine Below.drew ?_; with_reducible exact below_new _ (Below.refl _ _) (Nat.le_refl _)) | (with_reducible refine below_new _ ?_ (Nat.le_refl _); with_reducible exact (Below.refl _ _).drew))) (first | (go_at_call 79; (first | go_fit (unhide K0 _) | go_fit (unhide K1 _)); rintro r w4 ⟨rfl, rfl⟩) | (go_at_call 80; (first | go_fit (unhide K2 _) | go_fit (unhide K3 _)); rintro r w4 ⟨rfl, rfl⟩))
    all_goals
      go_wp2_with fail
      go_meet
      exact ⟨_, rfl, (by first | (rw [World.cell?_alloc_mark]; rfl) | (show (W.alloc _).cell? _ = _; rw [World.cell?_alloc_mark]; rfl)), (by first | (rw [World.cell?_alloc_mark]; rfl) | (show (W.alloc _).cell? _ = _; rw [World.cell?_alloc_mark]; rfl)), (by first | (rw [World.cell?_alloc_mark]; rfl) | (show (W.alloc _).cell? _ = _; rw [World.cell?_alloc_mark]; rfl)), (by first | (rw [World.cell?_alloc_mark]; rfl) | (show (W.alloc _).cell? _ = _; rw [World.cell?_alloc_mark]; rfl)), kS _ (by with_reducible assumption)⟩
  case rest =>
    obtain ⟨q, rfl, q0, q1, q2, q3, hb⟩ := hcut
    replace R := hide ((hb.block _ (heap_lt (unhide R))).trans (unhide R))
    replace HB := hide (below_two (unhide HB) hb)
    clear hb k0 kS a0 a1 a2 a3 b0 b1 b2 b3
    go_wp2_with fail
    go_fit (unhide HE _)
    rintro r w2 ⟨rfl, hb⟩
    replace q0 := kc hb q0
    replace q1 := kc hb q1
    replace q2 := kc hb q2
    replace q3 := kc hb q3
    replace R := hide ((hb.block _ (heap_lt (unhide R))).trans (unhide R))
    replace HB := hide (below_two (unhide HB) hb)
    clear hb
    obtain ⟨r0, r1, r2, r3⟩ := row4 (unhide R)
    obtain ⟨f0, f1, f2, f3⟩ := free4 (unhide R)
    cases p
    · go_wp2_with fail
      refine bodyPost_ret (v := .agg #[.int .i64 l0, .int .i64 l1, .int .i64 l2, .int .i64 l3]) (by simp [results, Try.results57, go_sem, r0, r1, r2, r3]) rfl ⟨rfl, ?_⟩
      exact below_put4 (unhide HB) (by omega) _ _ _ _
    · go_wp2_with fail
      refine bodyPost_ret (v := .agg #[.int .i64 0, .int .i64 0, .int .i64 0, .int .i64 0]) (by simp [results, Try.results57, go_sem, r0, r1, r2, r3]) rfl ⟨rfl, ?_⟩
      exact below_put4 (unhide HB) (by omega) _ _ _ _
end Go.Proofs.Ytjnnaaafehndpaa

/-
  The bits that two have; the specification's l11Both; where two masks meet.
-/
namespace Go.Proofs.Ytjnnaaafehndpaa
open Go.RowKit
set_option linter.unusedVariables false

def bothN (a b : Int) : Nat → Int
  | 0 => 0
  | i + 1 => bothN a b i + if a / 2 ^ i % 2 = 1 ∧ b / 2 ^ i % 2 = 1 then 2 ^ i else 0
def bothI (a b : Int) : Int := bothN a b 4
theorem bothN_bd (a b : Int) : ∀ k, 0 ≤ bothN a b k ∧ bothN a b k ≤ 2 ^ k - 1
  | 0 => by simp [bothN]
  | k + 1 => by
    have := bothN_bd a b k
    have h2 : (2 : Int) ^ (k + 1) = 2 ^ k * 2 := rfl
    simp only [bothN]; rw [h2]; split <;> omega

set_option maxHeartbeats 4000000 in
theorem specL11Both_any (a b : Int) (ha : 0 ≤ a ∧ a ≤ 15) (hb : 0 ≤ b ∧ b ≤ 15) (w : World) :
    Calls Try.prog 58 #[.int .i64 a, .int .i64 b] w fun r w' => r = .returned (.int .i64 (bothI a b)) ∧ w' = w := by
  have hs : Hid (∀ k, bothN a b (k + 1) = bothN a b k + if a / 2 ^ k % 2 = 1 ∧ b / 2 ^ k % 2 = 1 then 2 ^ k else 0) := fun k => rfl
  have h0 : Hid (bothN a b 0 = 0) := rfl
  have hbd := hide (bothN_bd a b)
  unfold bothI
  generalize bothN a b = bn at hs h0 hbd ⊢
  go_enter Try.func58, Try.ntmps58
  go_wp2_with fail
  go_loopw [5, 6, 7] (fun s t i u => ∃ k : Nat, k ≤ 4 ∧ i = .int .i64 k ∧ t = .int .i64 (2 ^ k) ∧ s = .int .i64 (bn k) ∧ u = w) (fun _ _ i _ => 4 - (intOf i).toNat)
  case atStart => exact ⟨0, by omega, rfl, rfl, by rw [unhide h0], rfl⟩
  case round =>
    obtain ⟨k, hk, rfl, rfl, rfl, rfl⟩ := hrel
    obtain ⟨hb0, hb1⟩ := unhide hbd k
    have hs1 := hide (unhide hs k)
    by_cases h4 : k = 4
    · subst h4
      obtain ⟨S, hS⟩ : ∃ S, Hid (bn 4 = S) := ⟨_, rfl⟩
      rw [unhide hS] at hb0 hb1 ⊢
      go_wp2_with fail
      go_ret
      exact ⟨ret_i (unhide hS).symm, rfl⟩
    · have h5 : k = 0 ∨ k = 1 ∨ k = 2 ∨ k = 3 := by omega
      clear h4
      rcases h5 with rfl | rfl | rfl | rfl
      · obtain ⟨S, hS⟩ : ∃ S, Hid (bn 0 = S) := ⟨_, rfl⟩
        have hs2 : Hid (bn 1 = S + if a / 1 % 2 = 1 ∧ b / 1 % 2 = 1 then 1 else 0) := by unfold Hid; rw [unhide hs1, unhide hS]; rfl
        rw [unhide hS] at hb0 hb1 ⊢
        clear hs1 hs
        have e1 : a.tdiv 1 = a / 1 := Int.tdiv_eq_ediv_of_nonneg (by omega)
        have e2 : b.tdiv 1 = b / 1 := Int.tdiv_eq_ediv_of_nonneg (by omega)
        have e3 : (a / 1).tmod 2 = a / 1 % 2 := Int.tmod_eq_emod_of_nonneg (by omega)
        have e4 : (b / 1).tmod 2 = b / 1 % 2 := Int.tmod_eq_emod_of_nonneg (by omega)
        have v1 : IntKind.i64.wrap (a / 1) = a / 1 := IntWalk.i64_in _ (by omega)
        have v2 : IntKind.i64.wrap (b / 1) = b / 1 := IntWalk.i64_in _ (by omega)
        have v3 : IntKind.i64.wrap (S + 1) = S + 1 := IntWalk.i64_in _ (by omega)
        by_cases ca : a / 1 % 2 = 1
        · have da : ((a / 1 % 2) == 1) = true := beq_iff_eq.2 ca
          by_cases cb : b / 1 % 2 = 1
          · have db : ((b / 1 % 2) == 1) = true := beq_iff_eq.2 cb
            have hX : Hid (bn 1 = S + 1) := by unfold Hid; rw [unhide hs2, if_pos ⟨ca, cb⟩]
            go_wp2_with fail
            go_roundw
            case rel => exact ⟨1, by omega, by go_num, by go_num, by rw [unhide hX], by trivial⟩
            case measure => simp [intOf]
          · have db : ((b / 1 % 2) == 1) = false := beq_eq_false_iff_ne.2 cb
            have hX : Hid (bn 1 = S) := by unfold Hid; rw [unhide hs2, if_neg (fun h => cb h.2)]; omega
            go_wp2_with fail
            go_roundw
            case rel => exact ⟨1, by omega, by go_num, by go_num, by rw [unhide hX], by trivial⟩
            case measure => simp [intOf]
        · have da : ((a / 1 % 2) == 1) = false := beq_eq_false_iff_ne.2 ca
          have hX : Hid (bn 1 = S) := by unfold Hid; rw [unhide hs2, if_neg (fun h => ca h.1)]; omega
          go_wp2_with fail
          go_roundw
          case rel => exact ⟨1, by omega, by go_num, by go_num, by rw [unhide hX], by trivial⟩
          case measure => simp [intOf]
      · obtain ⟨S, hS⟩ : ∃ S, Hid (bn 1 = S) := ⟨_, rfl⟩
        have hs2 : Hid (bn 2 = S + if a / 2 % 2 = 1 ∧ b / 2 % 2 = 1 then 2 else 0) := by unfold Hid; rw [unhide hs1, unhide hS]; rfl
        rw [unhide hS] at hb0 hb1 ⊢
        clear hs1 hs
        have e1 : a.tdiv 2 = a / 2 := Int.tdiv_eq_ediv_of_nonneg (by omega)
        have e2 : b.tdiv 2 = b / 2 := Int.tdiv_eq_ediv_of_nonneg (by omega)
        have e3 : (a / 2).tmod 2 = a / 2 % 2 := Int.tmod_eq_emod_of_nonneg (by omega)
        have e4 : (b / 2).tmod 2 = b / 2 % 2 := Int.tmod_eq_emod_of_nonneg (by omega)
        have v1 : IntKind.i64.wrap (a / 2) = a / 2 := IntWalk.i64_in _ (by omega)
        have v2 : IntKind.i64.wrap (b / 2) = b / 2 := IntWalk.i64_in _ (by omega)
        have v3 : IntKind.i64.wrap (S + 2) = S + 2 := IntWalk.i64_in _ (by omega)
        by_cases ca : a / 2 % 2 = 1
        · have da : ((a / 2 % 2) == 1) = true := beq_iff_eq.2 ca
          by_cases cb : b / 2 % 2 = 1
          · have db : ((b / 2 % 2) == 1) = true := beq_iff_eq.2 cb
            have hX : Hid (bn 2 = S + 2) := by unfold Hid; rw [unhide hs2, if_pos ⟨ca, cb⟩]
            go_wp2_with fail
            go_roundw
            case rel => exact ⟨2, by omega, by go_num, by go_num, by rw [unhide hX], by trivial⟩
            case measure => simp [intOf]
          · have db : ((b / 2 % 2) == 1) = false := beq_eq_false_iff_ne.2 cb
            have hX : Hid (bn 2 = S) := by unfold Hid; rw [unhide hs2, if_neg (fun h => cb h.2)]; omega
            go_wp2_with fail
            go_roundw
            case rel => exact ⟨2, by omega, by go_num, by go_num, by rw [unhide hX], by trivial⟩
            case measure => simp [intOf]
        · have da : ((a / 2 % 2) == 1) = false := beq_eq_false_iff_ne.2 ca
          have hX : Hid (bn 2 = S) := by unfold Hid; rw [unhide hs2, if_neg (fun h => ca h.1)]; omega
          go_wp2_with fail
          go_roundw
          case rel => exact ⟨2, by omega, by go_num, by go_num, by rw [unhide hX], by trivial⟩
          case measure => simp [intOf]
      · obtain ⟨S, hS⟩ : ∃ S, Hid (bn 2 = S) := ⟨_, rfl⟩
        have hs2 : Hid (bn 3 = S + if a / 4 % 2 = 1 ∧ b / 4 % 2 = 1 then 4 else 0) := by unfold Hid; rw [unhide hs1, unhide hS]; rfl
        rw [unhide hS] at hb0 hb1 ⊢
        clear hs1 hs
        have e1 : a.tdiv 4 = a / 4 := Int.tdiv_eq_ediv_of_nonneg (by omega)
        have e2 : b.tdiv 4 = b / 4 := Int.tdiv_eq_ediv_of_nonneg (by omega)
        have e3 : (a / 4).tmod 2 = a / 4 % 2 := Int.tmod_eq_emod_of_nonneg (by omega)
        have e4 : (b / 4).tmod 2 = b / 4 % 2 := Int.tmod_eq_emod_of_nonneg (by omega)
        have v1 : IntKind.i64.wrap (a / 4) = a / 4 := IntWalk.i64_in _ (by omega)
        have v2 : IntKind.i64.wrap (b / 4) = b / 4 := IntWalk.i64_in _ (by omega)
        have v3 : IntKind.i64.wrap (S + 4) = S + 4 := IntWalk.i64_in _ (by omega)
        by_cases ca : a / 4 % 2 = 1
        · have da : ((a / 4 % 2) == 1) = true := beq_iff_eq.2 ca
          by_cases cb : b / 4 % 2 = 1
          · have db : ((b / 4 % 2) == 1) = true := beq_iff_eq.2 cb
            have hX : Hid (bn 3 = S + 4) := by unfold Hid; rw [unhide hs2, if_pos ⟨ca, cb⟩]
            go_wp2_with fail
            go_roundw
            case rel => exact ⟨3, by omega, by go_num, by go_num, by rw [unhide hX], by trivial⟩
            case measure => simp [intOf]
          · have db : ((b / 4 % 2) == 1) = false := beq_eq_false_iff_ne.2 cb
            have hX : Hid (bn 3 = S) := by unfold Hid; rw [unhide hs2, if_neg (fun h => cb h.2)]; omega
            go_wp2_with fail
            go_roundw
            case rel => exact ⟨3, by omega, by go_num, by go_num, by rw [unhide hX], by trivial⟩
            case measure => simp [intOf]
        · have da : ((a / 4 % 2) == 1) = false := beq_eq_false_iff_ne.2 ca
          have hX : Hid (bn 3 = S) := by unfold Hid; rw [unhide hs2, if_neg (fun h => ca h.1)]; omega
          go_wp2_with fail
          go_roundw
          case rel => exact ⟨3, by omega, by go_num, by go_num, by rw [unhide hX], by trivial⟩
          case measure => simp [intOf]
      · obtain ⟨S, hS⟩ : ∃ S, Hid (bn 3 = S) := ⟨_, rfl⟩
        have hs2 : Hid (bn 4 = S + if a / 8 % 2 = 1 ∧ b / 8 % 2 = 1 then 8 else 0) := by unfold Hid; rw [unhide hs1, unhide hS]; rfl
        rw [unhide hS] at hb0 hb1 ⊢
        clear hs1 hs
        have e1 : a.tdiv 8 = a / 8 := Int.tdiv_eq_ediv_of_nonneg (by omega)
        have e2 : b.tdiv 8 = b / 8 := Int.tdiv_eq_ediv_of_nonneg (by omega)
        have e3 : (a / 8).tmod 2 = a / 8 % 2 := Int.tmod_eq_emod_of_nonneg (by omega)
        have e4 : (b / 8).tmod 2 = b / 8 % 2 := Int.tmod_eq_emod_of_nonneg (by omega)
        have v1 : IntKind.i64.wrap (a / 8) = a / 8 := IntWalk.i64_in _ (by omega)
        have v2 : IntKind.i64.wrap (b / 8) = b / 8 := IntWalk.i64_in _ (by omega)
        have v3 : IntKind.i64.wrap (S + 8) = S + 8 := IntWalk.i64_in _ (by omega)
        by_cases ca : a / 8 % 2 = 1
        · have da : ((a / 8 % 2) == 1) = true := beq_iff_eq.2 ca
          by_cases cb : b / 8 % 2 = 1
          · have db : ((b / 8 % 2) == 1) = true := beq_iff_eq.2 cb
            have hX : Hid (bn 4 = S + 8) := by unfold Hid; rw [unhide hs2, if_pos ⟨ca, cb⟩]
            go_wp2_with fail
            go_roundw
            case rel => exact ⟨4, by omega, by go_num, by go_num, by rw [unhide hX], by trivial⟩
            case measure => simp [intOf]
          · have db : ((b / 8 % 2) == 1) = false := beq_eq_false_iff_ne.2 cb
            have hX : Hid (bn 4 = S) := by unfold Hid; rw [unhide hs2, if_neg (fun h => cb h.2)]; omega
            go_wp2_with fail
            go_roundw
            case rel => exact ⟨4, by omega, by go_num, by go_num, by rw [unhide hX], by trivial⟩
            case measure => simp [intOf]
        · have da : ((a / 8 % 2) == 1) = false := beq_eq_false_iff_ne.2 ca
          have hX : Hid (bn 4 = S) := by unfold Hid; rw [unhide hs2, if_neg (fun h => ca h.1)]; omega
          go_wp2_with fail
          go_roundw
          case rel => exact ⟨4, by omega, by go_num, by go_num, by rw [unhide hX], by trivial⟩
          case measure => simp [intOf]
theorem most_is (x y : Int) : x ≤ mostI x y ∧ y ≤ mostI x y ∧ (mostI x y = x ∨ mostI x y = y) := by unfold mostI; split <;> omega
theorem least_is (x y : Int) : leastI x y ≤ x ∧ leastI x y ≤ y ∧ (leastI x y = x ∨ leastI x y = y) := by unfold leastI; split <;> omega
/-- Two right masks meet in nothing, or in a box that a mask may have. -/
theorem meet_in {a b c d e f g h : Int} {n m : Nat} {F G : Nat → Int} (h1 : MOk a b c d n F) (h2 : MOk e f g h m G) :
    (meet0 a b c d e f g h = 0 ∧ meet1 a b c d e f g h = 0 ∧ meet2 a b c d e f g h = 0 ∧ meet3 a b c d e f g h = 0) ∨ boxInB (meet0 a b c d e f g h) (meet1 a b c d e f g h) (meet2 a b c d e f g h) (meet3 a b c d e f g h) = true := by
  unfold meet0 meet1 meet2 meet3
  cases hm : meetNo a b c d e f g h with
  | true => exact .inl ⟨rfl, rfl, rfl, rfl⟩
  | false =>
    refine .inr ?_
    simp only [cond_false]
    rw [boxIn_iff]
    simp only [meetNo, emptyB, Bool.or_eq_false_iff, decide_eq_false_iff_not] at hm
    have p1 := most_is a e
    have p2 := most_is b f
    have p3 := least_is c g
    have p4 := least_is d h
    generalize mostI a e = x0 at hm p1 ⊢
    generalize mostI b f = y0 at hm p2 ⊢
    generalize leastI c g = x1 at hm p3 ⊢
    generalize leastI d h = y1 at hm p4 ⊢
    rcases h1 with ⟨_, rfl, rfl, rfl, rfl⟩ | ⟨_, h1, _⟩
    · omega
    · rw [boxIn_iff] at h1
      rcases h2 with ⟨_, rfl, rfl, rfl, rfl⟩ | ⟨_, h2, _⟩
      · omega
      · rw [boxIn_iff] at h2; omega
theorem at_bd {a b c d : Int} {n : Nat} {F : Nat → Int} (h : MOk a b c d n F) (x y : Int) : 0 ≤ atI a b c d F x y ∧ atI a b c d F x y ≤ 15 := by
  unfold atI
  split
  · rename_i hi
    rcases h with ⟨_, rfl, rfl, rfl, rfl⟩ | ⟨_, h1, h2, h3⟩
    · simp only [inBoxB, Bool.and_eq_true, decide_eq_true_eq] at hi; omega
    · obtain ⟨p1, p2⟩ := place_bd h1 hi
      have := h3 (placeI a b c x y).toNat (by omega)
      rw [inB_true] at this; exact this
  · omega
end Go.Proofs.Ytjnnaaafehndpaa

/-
  The specification's WindOf, Covers, MaskAt, CountOf.
-/
namespace Go.Proofs.Ytjnnaaafehndpaa
open Go.RowKit
set_option linter.unusedVariables false

set_option maxHeartbeats 1000000 in
set_option maxRecDepth 100000 in
theorem specNear_any (x y : Int) (w : World) :
    Calls Try.prog 97 #[.agg #[.int .i64 x, .int .i64 y]] w fun e w' => e = .returned (.bool (nearB x y)) ∧ Below w.heap.size w w' := by
  have HX := hide (l01In_any x (-33554432) 33554432)
  have HY := hide (l01In_any y (-33554432) 33554432)
  have H : Hid ((inB x (-33554432) 33554432 && inB y (-33554432) 33554432) = nearB x y) := rfl
  obtain ⟨p, hp⟩ : ∃ p, p = inB x (-33554432) 33554432 := ⟨_, rfl⟩
  obtain ⟨q, hq⟩ : ∃ q, q = inB y (-33554432) 33554432 := ⟨_, rfl⟩
  rw [← hp] at HX H
  rw [← hq] at HY H
  clear hp hq
  cases p
  · go_enter Try.func97, Try.ntmps97
    go_wp2_with fail
    refine (unhide HX _).mono ?_
    rintro e w1 ⟨rfl, rfl⟩
    go_wp2_with fail
    go_ret
    exact ⟨ret_bool (unhide H), (Below.refl _ _).alloc (Nat.le_refl _) _⟩
  · go_enter Try.func97, Try.ntmps97
    go_wp2_with fail
    refine (unhide HX _).mono ?_
    rintro e w1 ⟨rfl, rfl⟩
    go_wp2_with fail
    refine (unhide HY _).mono ?_
    rintro e w2 ⟨rfl, rfl⟩
    go_wp2_with fail
    go_ret
    exact ⟨ret_bool (unhide H), (Below.refl _ _).alloc (Nat.le_refl _) _⟩

theorem not_near {n : Nat} {pf : Nat → Pt} {k : Nat} (hk : k < n) {x y : Int} (hz : pf k = (x, y)) (h : nearB x y = false) (p : Pt) : windP n pf p = 0 :=
  windP_no (fun h' => by have := h'.2 k hk; rw [hz] at this; dsimp only at this; rw [h] at this; cases this)
theorem up_three {a b p : Pt} : upB a b p = (decide (a.2 ≤ p.2) && (decide (p.2 < b.2) && decide (0 < sideI a b p))) := rfl

set_option maxHeartbeats 8000000 in
set_option maxRecDepth 100000 in
theorem specWindOf_any (pf : Nat → Pt) (la : Option Addr) (n lc : Nat) (hn : n ≤ 1048576) (x y : Int) (w : World) (P : ∀ i, i < n → PtArg w la i (pf i)) :
    Calls Try.prog 86 #[.slice la n lc, .agg #[.int .i64 x, .int .i64 y]] w fun e w' => e = .returned (.int .i64 (windP n pf (x, y))) ∧ Below w.heap.size w w' := by
  have EP := hide (specNear_any x y)
  replace P := hide P
  cases hp : nearB x y with
  | false =>
    rw [windP_no (fun h => by have := h.1; dsimp only at this; rw [hp] at this; cases this)]
    rw [hp] at EP
    clear hp
    go_enter Try.func86, Try.ntmps86
    go_wp2_with fail
    go_fit (unhide EP _)
    rintro r w1 ⟨rfl, hb⟩
    go_wp2_with fail
    go_ret
    exact ⟨rfl, below_two (al1_below _ _) hb⟩
  | true =>
    rw [hp] at EP
    obtain ⟨px, py⟩ := near_bd hp
    have hall : Hid (allNear n pf → windP n pf (x, y) = windN n pf (x, y) n) := fun h => windP_yes hp h
    have hno := hide (fun k (hk : k < n) (xa ya : Int) hz h => not_near (pf := pf) hk (x := xa) (y := ya) hz h (x, y))
    generalize windP n pf (x, y) = R at hall hno ⊢
    clear hp
    go_enter Try.func86, Try.ntmps86
    go_wp2_with fail
    have R3 := hide (new_row w (.cells #[.int .i64 x, .int .i64 y] 74))
    have HB := hide (al1_below w (.cells #[.int .i64 x, .int .i64 y] 74))
    generalize hb3 : w.heap.size = b3 at R3 ⊢
    generalize w.alloc (.cells #[.int .i64 x, .int .i64 y] 74) = W at R3 HB ⊢
    replace hb3 := hide hb3
    go_fit (unhide EP _)
    rintro r w1 ⟨rfl, hb⟩
    replace R3 := hide (row_next hb (unhide R3))
    replace HB := hide (below_two (unhide HB) hb)
    clear hb EP
    go_wp2_with fail
    go_loopw [5, 6] (fun s i u => ∃ k : Nat, k ≤ n ∧ i = .int .i64 k ∧ s = .int .i64 (windN n pf (x, y) k) ∧ Hid (∀ j, j < k → nearB (pf j).1 (pf j).2 = true) ∧ Hid (Below w.heap.size w u) ∧ Hid (u.heap[b3]? = some (.cells #[.int .i64 x, .int .i64 y] 74 (0, 0)))) (fun _ i _ => n - (intOf i).toNat)
    case atStart => exact ⟨0, Nat.zero_le _, rfl, rfl, fun j hj => absurd hj (by omega), HB, R3⟩
    case round =>
      clear HB R3
      obtain ⟨k, hk, rfl, rfl, HK, HB, R3⟩ := hrel
      have hS := windN_bd n pf (x, y) k
      by_cases hlt : k < n
      · have hk1 : (k + 1) % n < n := Nat.mod_lt _ (by omega)
        have hs1 : Hid (windN n pf (x, y) (k + 1) = windN n pf (x, y) k + windE (pf k) (pf ((k + 1) % n)) (x, y)) := rfl
        have Pa := (unhide P k hlt).next (unhide HB)
        have Pb := (unhide P _ hk1).next (unhide HB)
        have e1' : ((k : Int) + 1).tmod (n : Int) = (((k + 1) % n : Nat) : Int) := by rw [Int.tmod_eq_emod_of_nonneg (by omega)]; push_cast; rfl
        have hnk := unhide hno k hlt
        have hnk1 := unhide hno _ hk1
        generalize (k + 1) % n = k1 at *
        obtain ⟨za, hza⟩ : ∃ z, pf k = z := ⟨_, rfl⟩
        obtain ⟨zb, hzb⟩ : ∃ z, pf k1 = z := ⟨_, rfl⟩
        have Na := fun xa ya (h : za = (xa, ya)) => hnk xa ya (hza.trans h)
        have Nb := fun xa ya (h : zb = (xa, ya)) => hnk1 xa ya (hzb.trans h)
        rw [hza] at Pa hs1
        rw [hzb] at Pb hs1
        obtain ⟨xa, ya⟩ := za
        obtain ⟨xb, yb⟩ := zb
        replace Na := hide (Na xa ya rfl)
        replace Nb := hide (Nb xb yb rfl)
        obtain ⟨s0, o0, rfl, a0, a1⟩ := Pa
        obtain ⟨_, _, e1, b0, b1⟩ := Pb
        cases e1
        dsimp only at a0 a1 b0 b1
        have EA := hide (specNear_any xa ya)
        have EB := hide (specNear_any xb yb)
        have w1' : IntKind.i64.wrap ((k : Int) + 1) = (k : Int) + 1 := IntWalk.i64_in _ (by omega)
        have hki : (k : Int) < (n : Int) := by omega
        have hk1i : (k1 : Int) < (n : Int) := by omega
        have hn0 : ¬ n = 0 := by omega
        have hnz : ((n : Int) == 0) = false := beq_eq_false_iff_ne.2 (by omega)
        have nb0 := fun o => kn o b0
        have nb1 := fun o => kn o b1
        replace hza := hide hza
        go_upto_region 9 with fail
        obtain ⟨W2, hW⟩ : ∃ W2, W2 = (wr.alloc (.cells #[.int .i64 xa, .int .i64 ya] 74)).alloc (.cells #[.int .i64 xb, .int .i64 yb] 74) := ⟨_, rfl⟩
        have Ra := hide (show W2.heap[wr.heap.size]? = some (.cells #[.int .i64 xa, .int .i64 ya] 74 (0, 0)) by rw [hW]; exact al2_0 _ _ _)
        have Rb := hide (show W2.heap[wr.heap.size + 1]? = some (.cells #[.int .i64 xb, .int .i64 yb] 74 (0, 0)) by rw [hW]; exact al2_1 _ _ _)
        have hbw : Below wr.heap.size wr W2 := by rw [hW]; exact al2_below _ _ _
        replace R3 := hide (row_next hbw (unhide R3))
        replace HB := hide (below_two (unhide HB) hbw)
        rw [← hW]
        clear hW hbw a0 a1 b0 b1 nb0 nb1
        generalize wr.heap.size + 1 = b8 at Rb ⊢
        generalize wr.heap.size = b7 at Ra ⊢
        obtain ⟨a0, a1⟩ := row2 (unhide Ra)
        go_wp2_with fail
        go_fit (unhide EA _)
        rintro r w2 ⟨rfl, hb⟩
        replace Ra := hide (row_next hb (unhide Ra))
        replace Rb := hide (row_next hb (unhide Rb))
        replace R3 := hide (row_next hb (unhide R3))
        replace HB := hide (below_two (unhide HB) hb)
        clear hb a0 a1 EA
        cases ha : nearB xa ya with
        | false =>
          have hR := hide (unhide Na ha)
          go_wp2_with fail
          go_ret
          exact ⟨congrArg (fun z => Ending.returned (.int .i64 z)) (unhide hR).symm, unhide HB⟩
        | true =>
          obtain ⟨b0, b1⟩ := row2 (unhide Rb)
          obtain ⟨ax, ay⟩ := near_bd ha
          have hka : Hid (nearB (pf k).1 (pf k).2 = true) := by unfold Hid; rw [unhide hza]; exact ha
          clear Na ha
          go_wp2_with fail
          go_fit (unhide EB _)
          rintro r w3 ⟨rfl, hb⟩
          replace Ra := hide (row_next hb (unhide Ra))
          replace Rb := hide (row_next hb (unhide Rb))
          replace R3 := hide (row_next hb (unhide R3))
          replace HB := hide (below_two (unhide HB) hb)
          clear hb b0 b1 EB
          cases hbn : nearB xb yb with
          | false =>
            have hR := hide (unhide Nb hbn)
            go_wp2_with fail
            go_ret
            exact ⟨congrArg (fun z => Ending.returned (.int .i64 z)) (unhide hR).symm, unhide HB⟩
          | true =>
            obtain ⟨bx, byy⟩ := near_bd hbn
            clear Nb hbn
            obtain ⟨a0, a1⟩ := row2 (unhide Ra)
            obtain ⟨b0, b1⟩ := row2 (unhide Rb)
            obtain ⟨p0, p1⟩ := row2 (unhide R3)
            have m1 := mul_bd (A := 67108864) (X := 67108864) (a := xb - xa) (x := y - ya) (by omega) (by omega) (by omega) (by omega)
            have m2 := mul_bd (A := 67108864) (X := 67108864) (a := x - xa) (x := yb - ya) (by omega) (by omega) (by omega) (by omega)
            have v1 : IntKind.i64.wrap (xb - xa) = xb - xa := IntWalk.i64_in _ (by omega)
            have v2 : IntKind.i64.wrap (y - ya) = y - ya := IntWalk.i64_in _ (by omega)
            have v3 : IntKind.i64.wrap (x - xa) = x - xa := IntWalk.i64_in _ (by omega)
            have v4 : IntKind.i64.wrap (yb - ya) = yb - ya := IntWalk.i64_in _ (by omega)
            have v5 : IntKind.i64.wrap ((xb - xa) * (y - ya)) = (xb - xa) * (y - ya) := IntWalk.i64_in _ (by omega)
            have v6 : IntKind.i64.wrap ((x - xa) * (yb - ya)) = (x - xa) * (yb - ya) := IntWalk.i64_in _ (by omega)
            have v7 : IntKind.i64.wrap ((xb - xa) * (y - ya) - (x - xa) * (yb - ya)) = (xb - xa) * (y - ya) - (x - xa) * (yb - ya) := IntWalk.i64_in _ (by omega)
            have hU : Hid (upB (xa, ya) (xb, yb) (x, y) = (decide (ya ≤ y) && (decide (y < yb) && decide (0 < (xb - xa) * (y - ya) - (x - xa) * (yb - ya))))) := rfl
            have hD : Hid (downB (xa, ya) (xb, yb) (x, y) = (decide (yb ≤ y) && (decide (y < ya) && decide ((xb - xa) * (y - ya) - (x - xa) * (yb - ya) < 0)))) := rfl
            unfold windE at hs1
            generalize upB (xa, ya) (xb, yb) (x, y) = up at hU hs1
            generalize downB (xa, ya) (xb, yb) (x, y) = dn at hD hs1
            generalize windN n pf (x, y) k = S at hS hs1 ⊢
            generalize hsd : (xb - xa) * (y - ya) - (x - xa) * (yb - ya) = sd at hU hD v7 
            have w5 : IntKind.i64.wrap (S + 1) = S + 1 := IntWalk.i64_in _ (by omega)
            have w6 : IntKind.i64.wrap (S - 1) = S - 1 := IntWalk.i64_in _ (by omega)
            have w7 : IntKind.i64.wrap (S + 1 - 1) = S + 1 - 1 := IntWalk.i64_in _ (by omega)
            clear m1 m2 px py ax ay bx byy
            go_upto_region 12 with fail
            go_cut [77] (fun s u => s = .bool up ∧ u = w3)
            case first =>
              by_cases c1 : ya ≤ y
              · by_cases c2 : y < yb
                · by_cases c3 : 0 < sd
                  all_goals
                    go_wp2_with fail
                    go_meet
                    exact ⟨by rw [unhide hU]; simp <;> omega, rfl⟩
                · go_wp2_with fail
                  go_meet
                  exact ⟨by rw [unhide hU]; simp <;> omega, rfl⟩
              · go_wp2_with fail
                go_meet
                exact ⟨by rw [unhide hU]; simp <;> omega, rfl⟩
            case rest =>
              obtain ⟨rfl, rfl⟩ := hcut
              clear hU
              obtain ⟨T, hT⟩ : ∃ T, Hid (T = S + if up = true then 1 else 0) := ⟨_, rfl⟩
              have hTb : S ≤ T ∧ T ≤ S + 1 := by rw [unhide hT]; split <;> omega
              have w8 : IntKind.i64.wrap (T - 1) = T - 1 := IntWalk.i64_in _ (by omega)
              go_upto_if 77 with fail
              go_cut [5] (fun s u => s = .int .i64 T ∧ u = wc)
              case first =>
                cases up with
                | true =>
                  go_wp2_with fail
                  go_meet
                  exact ⟨by rw [unhide hT]; rfl, rfl⟩
                | false =>
                  go_wp2_with fail
                  go_meet
                  exact ⟨by rw [unhide hT]; simp, rfl⟩
              case rest =>
                obtain ⟨rfl, rfl⟩ := hcut
                go_upto_region 14 with fail
                go_cut [95] (fun s u => s = .bool dn ∧ u = wc)
                case first =>
                  by_cases c1 : yb ≤ y
                  · by_cases c2 : y < ya
                    · by_cases c3 : sd < 0
                      all_goals
                        go_wp2_with fail
                        go_meet
                        exact ⟨by rw [unhide hD]; simp <;> omega, rfl⟩
                    · go_wp2_with fail
                      go_meet
                      exact ⟨by rw [unhide hD]; simp <;> omega, rfl⟩
                  · go_wp2_with fail
                    go_meet
                    exact ⟨by rw [unhide hD]; simp <;> omega, rfl⟩
                case rest =>
                  obtain ⟨rfl, rfl⟩ := hcut
                  clear hD
                  have hfin : Hid (windN n pf (x, y) (k + 1) = T - if dn = true then 1 else 0) := by unfold Hid; rw [unhide hs1, unhide hT]; omega
                  cases dn with
                  | true =>
                    go_wp2_with fail
                    go_roundw
                    case rel => exact ⟨k + 1, by omega, by go_num, by rw [unhide hfin]; rfl, fun j hj => (by by_cases e : j = k; (subst e; exact unhide hka); exact unhide HK j (by omega)), HB, R3⟩
                    case measure => simp [intOf]; omega
                  | false =>
                    go_wp2_with fail
                    go_roundw
                    case rel => exact ⟨k + 1, by omega, by go_num, by rw [unhide hfin]; simp, fun j hj => (by by_cases e : j = k; (subst e; exact unhide hka); exact unhide HK j (by omega)), HB, R3⟩
                    case measure => simp [intOf]; omega
      · have hke : k = n := by omega
        subst hke
        have hki : ¬ (k : Int) < (k : Int) := by omega
        have hR := hide (unhide hall (unhide HK))
        go_wp2_with fail
        go_ret
        exact ⟨congrArg (fun z => Ending.returned (.int .i64 z)) (unhide hR).symm, unhide HB⟩

theorem tm2 (S : Int) : S.tmod 2 = 0 ↔ S % 2 = 0 :=
  ⟨fun h => Int.emod_eq_zero_of_dvd (Int.dvd_of_tmod_eq_zero h), fun h => Int.tmod_eq_zero_of_dvd (Int.dvd_of_emod_eq_zero h)⟩

set_option maxHeartbeats 4000000 in
set_option maxRecDepth 100000 in
theorem specCovers_any (N : Nat) (ln : Nat → Nat) (pf : Nat → Nat → Pt) (hN : N ≤ 1048576) (hl : ∀ i, i < N → ln i ≤ 1048576) (la : Option Addr) (lc : Nat) (even : Bool) (x y : Int) (w : World) (L : ∀ i, i < N → LArg w la i (ln i) (pf i)) :
    Calls Try.prog 62 #[.slice la N lc, .bool even, .agg #[.int .i64 x, .int .i64 y]] w fun e w' => e = .returned (.bool (coversB N ln pf even (x, y))) ∧ Below w.heap.size w w' := by
  have hbd := hide (fun k hk => coverN_bd hl pf (x, y) k hk)
  have EW := hide (fun i (hi : i < N) (a : Option Addr) (c : Nat) u P => specWindOf_any (pf i) a (ln i) c (hl i hi) x y u P)
  have hwb := hide (fun i (hi : i < N) => (⟨windP_bd (ln i) (pf i) (x, y), hl i hi⟩ : (-(ln i : Int) ≤ windP (ln i) (pf i) (x, y) ∧ windP (ln i) (pf i) (x, y) ≤ (ln i : Int)) ∧ ln i ≤ 1048576))
  obtain ⟨C, hC⟩ : ∃ C, Hid (coversB N ln pf even (x, y) = C) := ⟨_, rfl⟩
  rw [unhide hC]
  have hs0 : Hid (∀ k, coverN ln pf (x, y) (k + 1) = coverN ln pf (x, y) k + windP (ln k) (pf k) (x, y)) := fun k => rfl
  replace L := hide L
  replace hl := hide hl
  go_enter Try.func62, Try.ntmps62
  go_wp2_with fail
  have R5 := hide (new_row w (.cells #[.int .i64 x, .int .i64 y] 74))
  have HB := hide (al1_below w (.cells #[.int .i64 x, .int .i64 y] 74))
  obtain ⟨b5, hb5⟩ : ∃ b, Hid (b = w.heap.size) := ⟨_, rfl⟩
  rw [← unhide hb5] at R5
  rw [← unhide hb5]
  generalize w.alloc (.cells #[.int .i64 x, .int .i64 y] 74) = W at R5 HB ⊢
  go_loopw [7, 8] (fun s i u => ∃ k : Nat, k ≤ N ∧ i = .int .i64 k ∧ s = .int .i64 (coverN ln pf (x, y) k) ∧ Hid (Below w.heap.size w u) ∧ Hid (u.heap[b5]? = some (.cells #[.int .i64 x, .int .i64 y] 74 (0, 0)))) (fun _ i _ => N - (intOf i).toNat)
  case atStart => exact ⟨0, Nat.zero_le _, rfl, rfl, HB, R5⟩
  case round =>
    clear HB R5
    obtain ⟨k, hk, rfl, rfl, HB, R5⟩ := hrel
    have hS := unhide hbd k hk
    by_cases hlt : k < N
    · obtain ⟨s0, o0, xx, cx, rfl, g0, hP⟩ := (unhide L k hlt).next (unhide HB)
      have hw1 := unhide hwb k hlt
      have hs1 := hide (unhide hs0 k)
      have E1 := hide (fun u (hu : Below wr.heap.size wr u) => unhide EW k hlt xx cx u (fun j hj => (hP j hj).next hu))
      generalize windP (ln k) (pf k) (x, y) = wk at hw1 hs1 E1
      generalize coverN ln pf (x, y) k = S at hS hs1 ⊢
      obtain ⟨lk, hlk⟩ : ∃ lk, Hid (ln k = lk) := ⟨_, rfl⟩
      rw [unhide hlk] at g0 E1 hw1
      have w1' : IntKind.i64.wrap (S + wk) = S + wk := IntWalk.i64_in _ (by omega)
      have hki : (k : Int) < (N : Int) := by omega
      have K0 : Hid (∀ u, Below wr.heap.size wr u → (u.cell? ⟨s0, o0 + k, none⟩ = some (.slice xx lk cx) ∧ u.cell? ⟨b5, 0, none⟩ = some (.int .i64 x) ∧ u.cell? ⟨b5, 1, none⟩ = some (.int .i64 y) ∧ Below wr.heap.size wr u)) := fun u h => ⟨kc h g0, (row2 (row_next h (unhide R5))).1, (row2 (row_next h (unhide R5))).2, h⟩
      have kS : Hid (∀ u, (u.cell? ⟨s0, o0 + k, none⟩ = some (.slice xx lk cx) ∧ u.cell? ⟨b5, 0, none⟩ = some (.int .i64 x) ∧ u.cell? ⟨b5, 1, none⟩ = some (.int .i64 y) ∧ Below wr.heap.size wr u) → Below wr.heap.size wr u) := fun u h => h.2.2.2
      clear g0 hP hw1
      go_upto_region 5 with fail
      go_region_held3 (fun u => u.cell? ⟨s0, o0 + k, none⟩ = some (.slice xx lk cx) ∧ u.cell? ⟨b5, 0, none⟩ = some (.int .i64 x) ∧ u.cell? ⟨b5, 1, none⟩ = some (.int .i64 y) ∧ Below wr.heap.size wr u) ((first | with_reducible assumption | (refine unhide K0 _ ?_; first | with_reducible exact (Below.refl _ _).drew | with_reducible assumption))) (first | (go_at_call 86; go_fit (unhide E1 _ (unhide kS _ (by with_reducible assumption))); rintro r w4 ⟨rfl, hb4⟩; have h4 := below_after hb4 (unhide kS _ (by with_reducible assumption)) (Nat.le_refl _)))
      all_goals
        have h9 := unhide kS _ (by with_reducible assumption)
        go_wp2_with fail
        go_roundw
        case rel => exact ⟨k + 1, by omega, by go_num, by rw [unhide hs1], below_two (unhide HB) h9, row_next h9 (unhide R5)⟩
        case measure => simp [intOf]; omega
    · have hke : k = N := by omega
      subst hke
      have hki : ¬ (k : Int) < (k : Int) := by omega
      unfold coversB at hC
      generalize coverN ln pf (x, y) k = S at hS hC ⊢
      cases even with
      | true =>
        have hC2 : Hid (decide (S % 2 ≠ 0) = C) := unhide hC
        by_cases h2 : S.tmod 2 = 0
        · have h3 : S % 2 = 0 := (tm2 S).1 h2
          go_wp2_with fail
          go_ret
          exact ⟨congrArg (fun z => Ending.returned (.bool z)) (by rw [← unhide hC2]; simp [h3]), unhide HB⟩
        · have h3 : ¬ S % 2 = 0 := fun h => h2 ((tm2 S).2 h)
          have h4 : (S.tmod 2 == 0) = false := beq_eq_false_iff_ne.2 h2
          go_wp2_with fail
          go_ret
          exact ⟨congrArg (fun z => Ending.returned (.bool z)) (by rw [← unhide hC2]; simp [h2, h3]), unhide HB⟩
      | false =>
        have hC2 : Hid (decide (S ≠ 0) = C) := unhide hC
        by_cases h2 : S = 0
        · go_wp2_with fail
          go_ret
          exact ⟨congrArg (fun z => Ending.returned (.bool z)) (by rw [← unhide hC2]; simp [h2]), unhide HB⟩
        · have h4 : (S == 0) = false := beq_eq_false_iff_ne.2 h2
          go_wp2_with fail
          go_ret
          exact ⟨congrArg (fun z => Ending.returned (.bool z)) (by rw [← unhide hC2]; simp [h2]), unhide HB⟩

end Go.Proofs.Ytjnnaaafehndpaa

/-
  The specification's MaskAt.
-/
namespace Go.Proofs.Ytjnnaaafehndpaa
open Go.RowKit
set_option linter.unusedVariables false

theorem maskN_bd (N : Nat) (ln : Nat → Nat) (pf : Nat → Nat → Pt) (even : Bool) (x y : Int) : ∀ k, 0 ≤ maskN N ln pf even x y k ∧ maskN N ln pf even x y k ≤ 2 ^ k - 1
  | 0 => by simp [maskN]
  | k + 1 => by
    have := maskN_bd N ln pf even x y k
    have h2 : (2 : Int) ^ (k + 1) = 2 ^ k * 2 := rfl
    simp only [maskN]; rw [h2]; split <;> omega

set_option maxHeartbeats 4000000 in
set_option maxRecDepth 100000 in
theorem specMaskAt_any (N : Nat) (ln : Nat → Nat) (pf : Nat → Nat → Pt) (hN : N ≤ 1048576) (hl : ∀ i, i < N → ln i ≤ 1048576) (la : Option Addr) (lc : Nat) (even : Bool) (x y : Int) (w : World) (L : ∀ i, i < N → LArg w la i (ln i) (pf i)) :
    Calls Try.prog 23 #[.slice la N lc, .bool even, .int .i64 x, .int .i64 y] w fun e w' => e = .returned (.int .i64 (maskP N ln pf even x y)) ∧ Below w.heap.size w w' := by
  have EX := hide (l01In_any x (-2000) 2000)
  have EY := hide (l01In_any y (-2000) 2000)
  have hM : Hid (maskP N ln pf even x y = if (inB x (-2000) 2000 && inB y (-2000) 2000) = true then maskN N ln pf even x y 4 else 0) := rfl
  have hx : Hid (inB x (-2000) 2000 = true → -2000 ≤ x ∧ x ≤ 2000) := fun h => inB_true.1 h
  have hy : Hid (inB y (-2000) 2000 = true → -2000 ≤ y ∧ y ≤ 2000) := fun h => inB_true.1 h
  have EC := hide (fun (a b : Int) u L => specCovers_any N ln pf hN hl la lc even a b u L)
  have hbd := hide (maskN_bd N ln pf even x y)
  have hs : Hid (∀ k, maskN N ln pf even x y (k + 1) = maskN N ln pf even x y k + if coversB N ln pf even (pointI x y k) = true then (2 : Int) ^ k else 0) := fun k => rfl
  have h0 : Hid (maskN N ln pf even x y 0 = 0) := rfl
  replace L := hide L
  replace hl := hide hl
  rw [unhide hM]
  clear hM
  generalize maskN N ln pf even x y = mk at hbd hs h0 ⊢
  generalize inB x (-2000) 2000 = ok at EX hx ⊢
  generalize inB y (-2000) 2000 = ok' at EY hy ⊢
  cases ok with
  | false =>
    go_enter Try.func23, Try.ntmps23
    go_wp2_with fail
    go_fit (unhide EX _)
    rintro r w1 ⟨rfl, rfl⟩
    go_wp2_with fail
    go_ret
    exact ⟨rfl, Below.refl _ _⟩
  | true =>
  cases ok' with
  | false =>
    go_enter Try.func23, Try.ntmps23
    go_wp2_with fail
    go_fit (unhide EX _)
    rintro r w1 ⟨rfl, rfl⟩
    go_wp2_with fail
    go_fit (unhide EY _)
    rintro r w1 ⟨rfl, rfl⟩
    go_wp2_with fail
    go_ret
    exact ⟨rfl, Below.refl _ _⟩
  | true =>
    rw [show (true && true) = true from rfl, if_pos rfl]
    have hx' := unhide hx rfl
    have hy' := unhide hy rfl
    clear hx hy
    go_enter Try.func23, Try.ntmps23
    go_wp2_with fail
    go_fit (unhide EX _)
    rintro r w1 ⟨rfl, rfl⟩
    go_wp2_with fail
    go_fit (unhide EY _)
    rintro r w1 ⟨rfl, rfl⟩
    clear EX EY
    go_wp2_with fail
    go_loopw [9, 10] (fun s i u => ∃ k : Nat, k ≤ 4 ∧ i = .int .i64 k ∧ s = .int .i64 (mk k) ∧ Hid (Below w1.heap.size w1 u)) (fun _ i _ => 4 - (intOf i).toNat)
    case atStart => exact ⟨0, by omega, rfl, by rw [unhide h0], hide (Below.refl _ _)⟩
    case round =>
      obtain ⟨k, hk, rfl, rfl, HB⟩ := hrel
      obtain ⟨hb0, hb1⟩ := unhide hbd k
      have hs1 := hide (unhide hs k)
      by_cases h4 : k = 4
      · subst h4
        obtain ⟨S, hS⟩ : ∃ S, Hid (mk 4 = S) := ⟨_, rfl⟩
        rw [unhide hS] at hb0 hb1 ⊢
        go_wp2_with fail
        go_ret
        exact ⟨congrArg (fun z => Ending.returned (.int .i64 z)) (unhide hS).symm, unhide HB⟩
      · have h5 : k = 0 ∨ k = 1 ∨ k = 2 ∨ k = 3 := by omega
        clear h4
        rcases h5 with rfl | rfl | rfl | rfl
        · have hp : pointI x y 0 = (256 * x + 64, 256 * y + 64) := by simp [pointI]
          rw [hp] at hs1
          clear hp
          have EC1 := hide (unhide EC (256 * x + 64) (256 * y + 64))
          obtain ⟨c, hc⟩ : ∃ c, Hid (coversB N ln pf even (256 * x + 64, 256 * y + 64) = c) := ⟨_, rfl⟩
          rw [unhide hc] at hs1 EC1
          clear hc EC
          have a1 : IntKind.i64.wrap (256 * x) = 256 * x := IntWalk.i64_in _ (by omega)
          have a2 : IntKind.i64.wrap (256 * x + 64) = 256 * x + 64 := IntWalk.i64_in _ (by omega)
          have a3 : IntKind.i64.wrap (256 * y) = 256 * y := IntWalk.i64_in _ (by omega)
          have a4 : IntKind.i64.wrap (256 * y + 64) = 256 * y + 64 := IntWalk.i64_in _ (by omega)
          have a5 : IntKind.i64.wrap (256 * x + 64 + 128) = 256 * x + 64 + 128 := IntWalk.i64_in _ (by omega)
          have a6 : IntKind.i64.wrap (256 * y + 64 + 128) = 256 * y + 64 + 128 := IntWalk.i64_in _ (by omega)
          have hs2 : Hid (mk 1 = mk 0 + if c = true then 1 else 0) := unhide hs1
          clear hs1 hs
          obtain ⟨S, hS⟩ : ∃ S, Hid (mk 0 = S) := ⟨_, rfl⟩
          rw [unhide hS] at hb0 hb1 hs2 ⊢
          have b1 : IntKind.i64.wrap (S + 1) = S + 1 := IntWalk.i64_in _ (by omega)
          go_wp2_with fail
          have hb2 := below_two (unhide HB) (al1_below wr (.cells #[.int .i64 (256 * x + 64), .int .i64 (256 * y + 64)] 74))
          go_fit (unhide EC1 _ (fun i hi => (unhide L i hi).next hb2))
          rintro r w2 ⟨rfl, hb3⟩
          have hb4 := hide (below_after hb3 hb2 (Nat.le_refl _))
          clear hb2 hb3
          cases c with
          | false =>
            go_wp2_with fail
            go_roundw
            case rel => exact ⟨1, by omega, by go_num, by rw [unhide hs2]; simp, hb4⟩
            case measure => simp [intOf]
          | true =>
            go_wp2_with fail
            go_roundw
            case rel => exact ⟨1, by omega, by go_num, by rw [unhide hs2]; simp, below_two (unhide hb4) (al1_below w2 _)⟩
            case measure => simp [intOf]
        · have hp : pointI x y 1 = (256 * x + 64 + 128, 256 * y + 64) := by simp [pointI]
          rw [hp] at hs1
          clear hp
          have EC1 := hide (unhide EC (256 * x + 64 + 128) (256 * y + 64))
          obtain ⟨c, hc⟩ : ∃ c, Hid (coversB N ln pf even (256 * x + 64 + 128, 256 * y + 64) = c) := ⟨_, rfl⟩
          rw [unhide hc] at hs1 EC1
          clear hc EC
          have a1 : IntKind.i64.wrap (256 * x) = 256 * x := IntWalk.i64_in _ (by omega)
          have a2 : IntKind.i64.wrap (256 * x + 64) = 256 * x + 64 := IntWalk.i64_in _ (by omega)
          have a3 : IntKind.i64.wrap (256 * y) = 256 * y := IntWalk.i64_in _ (by omega)
          have a4 : IntKind.i64.wrap (256 * y + 64) = 256 * y + 64 := IntWalk.i64_in _ (by omega)
          have a5 : IntKind.i64.wrap (256 * x + 64 + 128) = 256 * x + 64 + 128 := IntWalk.i64_in _ (by omega)
          have a6 : IntKind.i64.wrap (256 * y + 64 + 128) = 256 * y + 64 + 128 := IntWalk.i64_in _ (by omega)
          have hs2 : Hid (mk 2 = mk 1 + if c = true then 2 else 0) := unhide hs1
          clear hs1 hs
          obtain ⟨S, hS⟩ : ∃ S, Hid (mk 1 = S) := ⟨_, rfl⟩
          rw [unhide hS] at hb0 hb1 hs2 ⊢
          have b1 : IntKind.i64.wrap (S + 2) = S + 2 := IntWalk.i64_in _ (by omega)
          go_wp2_with fail
          have hb2 := below_two (unhide HB) (al1_below wr (.cells #[.int .i64 (256 * x + 64 + 128), .int .i64 (256 * y + 64)] 74))
          go_fit (unhide EC1 _ (fun i hi => (unhide L i hi).next hb2))
          rintro r w2 ⟨rfl, hb3⟩
          have hb4 := hide (below_after hb3 hb2 (Nat.le_refl _))
          clear hb2 hb3
          cases c with
          | false =>
            go_wp2_with fail
            go_roundw
            case rel => exact ⟨2, by omega, by go_num, by rw [unhide hs2]; simp, hb4⟩
            case measure => simp [intOf]
          | true =>
            go_wp2_with fail
            go_roundw
            case rel => exact ⟨2, by omega, by go_num, by rw [unhide hs2]; simp, below_two (unhide hb4) (al1_below w2 _)⟩
            case measure => simp [intOf]
        · have hp : pointI x y 2 = (256 * x + 64, 256 * y + 64 + 128) := by simp [pointI]
          rw [hp] at hs1
          clear hp
          have EC1 := hide (unhide EC (256 * x + 64) (256 * y + 64 + 128))
          obtain ⟨c, hc⟩ : ∃ c, Hid (coversB N ln pf even (256 * x + 64, 256 * y + 64 + 128) = c) := ⟨_, rfl⟩
          rw [unhide hc] at hs1 EC1
          clear hc EC
          have a1 : IntKind.i64.wrap (256 * x) = 256 * x := IntWalk.i64_in _ (by omega)
          have a2 : IntKind.i64.wrap (256 * x + 64) = 256 * x + 64 := IntWalk.i64_in _ (by omega)
          have a3 : IntKind.i64.wrap (256 * y) = 256 * y := IntWalk.i64_in _ (by omega)
          have a4 : IntKind.i64.wrap (256 * y + 64) = 256 * y + 64 := IntWalk.i64_in _ (by omega)
          have a5 : IntKind.i64.wrap (256 * x + 64 + 128) = 256 * x + 64 + 128 := IntWalk.i64_in _ (by omega)
          have a6 : IntKind.i64.wrap (256 * y + 64 + 128) = 256 * y + 64 + 128 := IntWalk.i64_in _ (by omega)
          have hs2 : Hid (mk 3 = mk 2 + if c = true then 4 else 0) := unhide hs1
          clear hs1 hs
          obtain ⟨S, hS⟩ : ∃ S, Hid (mk 2 = S) := ⟨_, rfl⟩
          rw [unhide hS] at hb0 hb1 hs2 ⊢
          have b1 : IntKind.i64.wrap (S + 4) = S + 4 := IntWalk.i64_in _ (by omega)
          go_wp2_with fail
          have hb2 := below_two (unhide HB) (al1_below wr (.cells #[.int .i64 (256 * x + 64), .int .i64 (256 * y + 64 + 128)] 74))
          go_fit (unhide EC1 _ (fun i hi => (unhide L i hi).next hb2))
          rintro r w2 ⟨rfl, hb3⟩
          have hb4 := hide (below_after hb3 hb2 (Nat.le_refl _))
          clear hb2 hb3
          cases c with
          | false =>
            go_wp2_with fail
            go_roundw
            case rel => exact ⟨3, by omega, by go_num, by rw [unhide hs2]; simp, hb4⟩
            case measure => simp [intOf]
          | true =>
            go_wp2_with fail
            go_roundw
            case rel => exact ⟨3, by omega, by go_num, by rw [unhide hs2]; simp, below_two (unhide hb4) (al1_below w2 _)⟩
            case measure => simp [intOf]
        · have hp : pointI x y 3 = (256 * x + 64 + 128, 256 * y + 64 + 128) := by simp [pointI]
          rw [hp] at hs1
          clear hp
          have EC1 := hide (unhide EC (256 * x + 64 + 128) (256 * y + 64 + 128))
          obtain ⟨c, hc⟩ : ∃ c, Hid (coversB N ln pf even (256 * x + 64 + 128, 256 * y + 64 + 128) = c) := ⟨_, rfl⟩
          rw [unhide hc] at hs1 EC1
          clear hc EC
          have a1 : IntKind.i64.wrap (256 * x) = 256 * x := IntWalk.i64_in _ (by omega)
          have a2 : IntKind.i64.wrap (256 * x + 64) = 256 * x + 64 := IntWalk.i64_in _ (by omega)
          have a3 : IntKind.i64.wrap (256 * y) = 256 * y := IntWalk.i64_in _ (by omega)
          have a4 : IntKind.i64.wrap (256 * y + 64) = 256 * y + 64 := IntWalk.i64_in _ (by omega)
          have a5 : IntKind.i64.wrap (256 * x + 64 + 128) = 256 * x + 64 + 128 := IntWalk.i64_in _ (by omega)
          have a6 : IntKind.i64.wrap (256 * y + 64 + 128) = 256 * y + 64 + 128 := IntWalk.i64_in _ (by omega)
          have hs2 : Hid (mk 4 = mk 3 + if c = true then 8 else 0) := unhide hs1
          clear hs1 hs
          obtain ⟨S, hS⟩ : ∃ S, Hid (mk 3 = S) := ⟨_, rfl⟩
          rw [unhide hS] at hb0 hb1 hs2 ⊢
          have b1 : IntKind.i64.wrap (S + 8) = S + 8 := IntWalk.i64_in _ (by omega)
          go_wp2_with fail
          have hb2 := below_two (unhide HB) (al1_below wr (.cells #[.int .i64 (256 * x + 64 + 128), .int .i64 (256 * y + 64 + 128)] 74))
          go_fit (unhide EC1 _ (fun i hi => (unhide L i hi).next hb2))
          rintro r w2 ⟨rfl, hb3⟩
          have hb4 := hide (below_after hb3 hb2 (Nat.le_refl _))
          clear hb2 hb3
          cases c with
          | false =>
            go_wp2_with fail
            go_roundw
            case rel => exact ⟨4, by omega, by go_num, by rw [unhide hs2]; simp, hb4⟩
            case measure => simp [intOf]
          | true =>
            go_wp2_with fail
            go_roundw
            case rel => exact ⟨4, by omega, by go_num, by rw [unhide hs2]; simp, below_two (unhide hb4) (al1_below w2 _)⟩
            case measure => simp [intOf]
end Go.Proofs.Ytjnnaaafehndpaa

/-
  The specification's MaskOf.
-/
namespace Go.Proofs.Ytjnnaaafehndpaa
open Go.RowKit
set_option linter.unusedVariables false

/-- The bits of each square of a box. -/
noncomputable def maskF (a b c : Int) (N : Nat) (ln : Nat → Nat) (pf : Nat → Nat → Pt) (even : Bool) (i : Nat) : Int := maskP N ln pf even (sqX a c i) (sqY a b c i)
theorem sq_at {a b c : Int} {W j t : Nat} (hW : W = wideN a c) (ht : t < W) : sqX a c (j * W + t) = a + (t : Int) ∧ sqY a b c (j * W + t) = b + (j : Int) := by
  subst hW
  unfold sqX sqY
  have e1 : (j * wideN a c + t) % wideN a c = t := by rw [Nat.mul_comm, Nat.mul_add_mod]; exact Nat.mod_eq_of_lt ht
  have e2 : (j * wideN a c + t) / wideN a c = j := by
    rw [Nat.mul_comm, Nat.mul_add_div (by omega), Nat.div_eq_of_lt ht]; rfl
  rw [e1, e2]; exact ⟨rfl, rfl⟩

set_option maxHeartbeats 8000000 in
set_option maxRecDepth 100000 in
theorem specMaskOf_any (N : Nat) (ln : Nat → Nat) (pf : Nat → Nat → Pt) (hN : N ≤ 1048576) (hl : ∀ i, i < N → ln i ≤ 1048576) (la : Option Addr) (lc : Nat) (even : Bool) (a b c d : Int) (w : World) (L : ∀ i, i < N → LArg w la i (ln i) (pf i)) :
    Calls Try.prog 22 #[.slice la N lc, .bool even, .agg #[.int .i64 a, .int .i64 b, .int .i64 c, .int .i64 d]] w fun r w' => MaskRes w r w' (boxV (boxInB a b c d) a) (boxV (boxInB a b c d) b) (boxV (boxInB a b c d) c) (boxV (boxInB a b c d) d) (boxK (boxInB a b c d) (sqN a b c d)) (maskF a b c N ln pf even) := by
  obtain ⟨i1, hi1, hz1, hs1, hb1⟩ := info_parts Try.info3
  have EB := hide (specL11Box_any a b c d)
  have EM := hide (fun (x y : Int) u L => specMaskAt_any N ln pf hN hl la lc even x y u L)
  have hfm : Hid (∀ i, maskF a b c N ln pf even i = maskP N ln pf even (sqX a c i) (sqY a b c i)) := fun i => rfl
  have hbi : Hid (boxInB a b c d = true → a < c ∧ b < d ∧ -2000 ≤ a ∧ -2000 ≤ b ∧ c ≤ 2000 ∧ d ≤ 2000 ∧ c - a ≤ 60 ∧ d - b ≤ 60) := fun h => boxIn_iff.1 h
  generalize boxInB a b c d = bi at EB hbi ⊢
  generalize maskF a b c N ln pf even = f at hfm ⊢
  replace L := hide L
  replace hl := hide hl
  cases bi with
  | false =>
    show Calls Try.prog 22 #[.slice la N lc, .bool even, .agg #[.int .i64 a, .int .i64 b, .int .i64 c, .int .i64 d]] w fun r w' => MaskRes w r w' 0 0 0 0 0 f
    go_enter Try.func22, Try.ntmps22
    go_upto_region 1 with fail
    have R5 := hide (al2_0 w (.cells #[.int .i64 a, .int .i64 b, .int .i64 c, .int .i64 d] 25) (.cells #[.int .i64 0, .int .i64 0, .int .i64 0, .int .i64 0, .slice none 0 0] 28))
    have R6 := hide (al2_1 w (.cells #[.int .i64 a, .int .i64 b, .int .i64 c, .int .i64 d] 25) (.cells #[.int .i64 0, .int .i64 0, .int .i64 0, .int .i64 0, .slice none 0 0] 28))
    have HB := hide (al2_below w (.cells #[.int .i64 a, .int .i64 b, .int .i64 c, .int .i64 d] 25) (.cells #[.int .i64 0, .int .i64 0, .int .i64 0, .int .i64 0, .slice none 0 0] 28))
    generalize (w.alloc (.cells #[.int .i64 a, .int .i64 b, .int .i64 c, .int .i64 d] 25)).alloc (.cells #[.int .i64 0, .int .i64 0, .int .i64 0, .int .i64 0, .slice none 0 0] 28) = W at R5 R6 HB ⊢
    obtain ⟨q0, q1, q2, q3⟩ := row4 (unhide R5)
    go_wp2_with fail
    go_fit (unhide EB _)
    rintro r w1 ⟨rfl, hb⟩
    replace R6 := hide (row_next hb (unhide R6))
    replace HB := hide (below_two (unhide HB) hb)
    clear hb q0 q1 q2 q3
    obtain ⟨e0, e1, e2, e3, e4⟩ := row5m (unhide R6)
    obtain ⟨f0, f1, f2, f3, f4⟩ := frozen5 (unhide R6)
    go_wp2_with fail
    refine bodyPost_ret (v := .agg #[.int .i64 0, .int .i64 0, .int .i64 0, .int .i64 0, .slice none 0 0]) (by simp [results, Try.results22, go_sem, e0, e1, e2, e3, e4]) rfl ?_
    exact mask_none (below_put5 (unhide HB) (by omega) _ _ _ _ _)
  | true =>
  have hb0 := unhide hbi (by trivial)
  obtain ⟨W0, hW0⟩ : ∃ W0, W0 = wideN a c := ⟨_, rfl⟩
  obtain ⟨H0, hH0⟩ : ∃ H0, H0 = wideN b d := ⟨_, rfl⟩
  have hsq : sqN a b c d = H0 * W0 := by unfold sqN; rw [hW0, hH0, Nat.mul_comm]
  have hWi : (W0 : Int) = c - a := by rw [hW0]; unfold wideN; omega
  have hHi : (H0 : Int) = d - b := by rw [hH0]; unfold wideN; omega
  rw [hsq]
  show Calls Try.prog 22 #[.slice la N lc, .bool even, .agg #[.int .i64 a, .int .i64 b, .int .i64 c, .int .i64 d]] w fun r w' => MaskRes w r w' a b c d (H0 * W0) f
  have hat : Hid (∀ j t : Nat, t < W0 → f (j * W0 + t) = maskP N ln pf even (a + (t : Int)) (b + (j : Int))) := fun j t ht => by
    rw [unhide hfm, (sq_at (b := b) hW0 ht).1, (sq_at (b := b) hW0 ht).2]
  have hWl : W0 ≤ 60 := by omega
  have hHl : H0 ≤ 60 := by omega
  clear hfm hW0 hH0 hsq hbi
  replace hat := hat
  go_enter Try.func22, Try.ntmps22
  go_upto_region 1 with fail
  have R5 := hide (al2_0 w (.cells #[.int .i64 a, .int .i64 b, .int .i64 c, .int .i64 d] 25) (.cells #[.int .i64 0, .int .i64 0, .int .i64 0, .int .i64 0, .slice none 0 0] 28))
  have R6 := hide (al2_1 w (.cells #[.int .i64 a, .int .i64 b, .int .i64 c, .int .i64 d] 25) (.cells #[.int .i64 0, .int .i64 0, .int .i64 0, .int .i64 0, .slice none 0 0] 28))
  have HB := hide (al2_below w (.cells #[.int .i64 a, .int .i64 b, .int .i64 c, .int .i64 d] 25) (.cells #[.int .i64 0, .int .i64 0, .int .i64 0, .int .i64 0, .slice none 0 0] 28))
  obtain ⟨b6, hb6⟩ : ∃ b, Hid (b = w.heap.size + 1) := ⟨_, rfl⟩
  obtain ⟨b5, hb5⟩ : ∃ b, Hid (b = w.heap.size) := ⟨_, rfl⟩
  rw [← unhide hb6] at R6
  rw [← unhide hb5] at R5
  rw [← unhide hb6, ← unhide hb5]
  generalize (w.alloc (.cells #[.int .i64 a, .int .i64 b, .int .i64 c, .int .i64 d] 25)).alloc (.cells #[.int .i64 0, .int .i64 0, .int .i64 0, .int .i64 0, .slice none 0 0] 28) = W at R5 R6 HB ⊢
  obtain ⟨q0, q1, q2, q3⟩ := row4 (unhide R5)
  go_wp2_with fail
  go_fit (unhide EB _)
  rintro r w1 ⟨rfl, hb⟩
  replace R5 := hide (row_next hb (unhide R5))
  replace R6 := hide (row_next hb (unhide R6))
  replace HB := hide (below_two (unhide HB) hb)
  clear hb q0 q1 q2 q3 EB
  obtain ⟨q0, q1, q2, q3⟩ := row4 (unhide R5)
  go_upto_region 4 with fail
  clear q0 q1 q2 q3
  have R7 := hide (new_row w1 (.cells #[.int .i64 a, .int .i64 b, .int .i64 c, .int .i64 d, .slice none 0 0] 28))
  have hn1 := al1_below w1 (.cells #[.int .i64 a, .int .i64 b, .int .i64 c, .int .i64 d, .slice none 0 0] 28)
  have l5 := hide (show b5 < w1.heap.size from heap_lt (unhide R5))
  have l6 := hide (show b6 < w1.heap.size from heap_lt (unhide R6))
  have lw := hide (show w.heap.size ≤ w1.heap.size from (unhide HB).size)
  replace R5 := hide (row_next hn1 (unhide R5))
  replace R6 := hide (row_next hn1 (unhide R6))
  replace HB := hide (below_two (unhide HB) hn1)
  have sz := hide (show (w1.alloc (.cells #[.int .i64 a, .int .i64 b, .int .i64 c, .int .i64 d, .slice none 0 0] 28)).heap.size = w1.heap.size + 1 by simp)
  clear hn1
  generalize w1.alloc (.cells #[.int .i64 a, .int .i64 b, .int .i64 c, .int .i64 d, .slice none 0 0] 28) = W3 at R5 R6 R7 HB sz ⊢
  generalize w1.heap.size = ob at R7 l5 l6 lw sz ⊢
  have GR := hide (show Grow w W3 b6 ob a b c d f 0 none 0 from ⟨unhide R6, unhide R7, World.ownsRow_nil _ _ _ _, unhide HB, by rw [unhide sz]; exact Nat.le_refl _⟩)
  clear R6 R7 HB sz
  obtain ⟨q0, q1, q2, q3⟩ := row4 (unhide R5)
  go_upto_region 5 with fail
  clear q0 q1 q2 q3
  go_loopw [8] (fun y u => ∃ (j : Nat) (p : Option Addr) (cp : Nat), j ≤ H0 ∧ y = .int .i64 (b + (j : Int)) ∧ Hid (Grow w u b6 ob a b c d f (j * W0) p cp) ∧ Hid (u.heap[b5]? = some (.cells #[.int .i64 a, .int .i64 b, .int .i64 c, .int .i64 d] 25 (0, 0)))) (fun y _ => (d - intOf y).toNat)
  case atStart => exact ⟨0, none, 0, Nat.zero_le _, by simp, by rw [Nat.zero_mul]; exact GR, R5⟩
  case round =>
    clear GR R5
    obtain ⟨j, p, cp, hj, rfl, GR, R5⟩ := hrel
    obtain ⟨q0, q1, q2, q3⟩ := row4 (unhide R5)
    by_cases hlt : j < H0
    · have hji : b + (j : Int) < d := by omega
      have wj : IntKind.i64.wrap (b + (j : Int) + 1) = b + (j : Int) + 1 := IntWalk.i64_in _ (by omega)
      go_upto_region 8 with fail
      clear q0 q1 q2 q3
      go_loopw [9] (fun x u => ∃ (t : Nat) (p : Option Addr) (cp : Nat), t ≤ W0 ∧ x = .int .i64 (a + (t : Int)) ∧ Hid (Grow w u b6 ob a b c d f (j * W0 + t) p cp) ∧ Hid (u.heap[b5]? = some (.cells #[.int .i64 a, .int .i64 b, .int .i64 c, .int .i64 d] 25 (0, 0)))) (fun x _ => (c - intOf x).toNat)
      case atStart => exact ⟨0, p, cp, Nat.zero_le _, by simp, GR, R5⟩
      case round =>
        clear GR R5
        obtain ⟨t, p, cp, ht, rfl, GR, R5⟩ := hrel
        obtain ⟨q0, q1, q2, q3⟩ := row4 (unhide R5)
        by_cases hlt' : t < W0
        · have hti : a + (t : Int) < c := by omega
          have wt : IntKind.i64.wrap (a + (t : Int) + 1) = a + (t : Int) + 1 := IntWalk.i64_in _ (by omega)
          have hk : j * W0 + t ≤ 1048576 := by
            have : j * W0 ≤ 60 * 60 := Nat.mul_le_mul (by omega) hWl
            omega
          have hz := hide (unhide hat j t hlt')
          have EM1 := hide (fun u (hu : Below wr.heap.size wr u) => unhide EM (a + (t : Int)) (b + (j : Int)) u (fun i hi => ((unhide L i hi).next (unhide GR).bel).next hu))
          generalize maskP N ln pf even (a + (t : Int)) (b + (j : Int)) = z at hz EM1
          obtain ⟨k, hkk⟩ : ∃ k, Hid (k = j * W0 + t) := ⟨_, rfl⟩
          rw [← unhide hkk] at GR hk hz
          replace hk := hide hk
          obtain ⟨c0, c1, c2, c3, c4⟩ := row5m (unhide GR).row
          go_upto_region 10 with fail
          go_region_law (first | (refine step_call rfl 23 _ (by go_simp) (unhide EM1 _ (Below.refl _ _).drew) ?_; rintro r w5 ⟨rfl, hb5⟩; refine ⟨_, rfl, ?_⟩; have z1 := kc hb5 c4; have z2 := kn (.cells #[.int .i64 z] 3) z1; have D5 := hide (show Below wr.heap.size wr w5 from below_undrew hb5)) | (refine step_append_i (w5 := w5) (wr := wr) rfl _ _ 26 rfl (ob + 1) i1 (.int .i64 0) Try.underlying26 hi1 hz1 hs1 hb1 rfl (.slice p k cp) k ((listN f k).map Iv) (by rfl) z 1 (by rfl) (unhide GR).own (unhide hk) (unhide GR).size (unhide D5) ?_; intro v' w6 O6 D6; obtain ⟨p', cp', rfl⟩ := own_form O6; obtain ⟨g0, g1, g2, g3, g4⟩ := row5m ((D6.block ob (Nat.lt_succ_self _)).trans (unhide GR).row); obtain ⟨f0, f1, f2, f3, f4⟩ := frozen5 ((D6.block ob (Nat.lt_succ_self _)).trans (unhide GR).row); replace O6 := hide O6; replace D6 := hide D6))
          all_goals
            have R8 := hide (setc_other (b := ob) (j := 4) (v := .slice p' (k + 1) cp') (by have := unhide l5; omega) (((unhide D6).block b5 (by have := unhide l5; omega)).trans (unhide R5)))
            have G8 := hide ((unhide GR).put (unhide lw) (unhide l6) (unhide hz) (unhide O6) (unhide D6))
            clear z1 z2 g0 g1 g2 g3 f0 f1 f2 f3 c0 c1 c2 c3 c4 q0 q1 q2 q3
            go_wp2_with fail
            go_roundw
            case rel => exact ⟨t + 1, p', cp', by omega, congrArg (Value.int .i64) (by push_cast; omega), by rw [show j * W0 + (t + 1) = k + 1 by rw [unhide hkk]; omega]; exact G8, R8⟩
            case measure => simp [intOf]; omega
        · have hte : t = W0 := by omega
          subst hte
          have hti : ¬ a + (t : Int) < c := by omega
          go_wp2_with fail
          go_roundw
          case rel => exact ⟨j + 1, p, cp, by omega, congrArg (Value.int .i64) (by push_cast; omega), by rw [Nat.succ_mul]; exact GR, R5⟩
          case measure => simp [intOf]; omega
    · have hje : j = H0 := by omega
      subst hje
      have hji : ¬ b + (j : Int) < d := by omega
      obtain ⟨c0, c1, c2, c3, c4⟩ := row5m (unhide GR).row
      obtain ⟨e0, e1, e2, e3, e4⟩ := row5m (unhide GR).zero
      obtain ⟨f0, f1, f2, f3, f4⟩ := frozen5 (unhide GR).zero
      have hwz := hide (show w.heap.size ≤ b6 by rw [unhide hb6]; omega)
      go_wp2_with fail
      refine bodyPost_ret (v := .agg #[.int .i64 a, .int .i64 b, .int .i64 c, .int .i64 d, .slice p (j * W0) cp]) (by simp [results, Try.results22, go_sem, e0, e1, e2, e3, e4]) rfl ?_
      exact (unhide GR).res (unhide hwz) (unhide l6)
end Go.Proofs.Ytjnnaaafehndpaa

/-
  The specification's MeetMask.
-/
namespace Go.Proofs.Ytjnnaaafehndpaa
open Go.RowKit
set_option linter.unusedVariables false

/-- The bits that two masks have at each square of a box. -/
def meetF (p0 p1 p2 : Int) (a b c d : Int) (F : Nat → Int) (e f g h : Int) (G : Nat → Int) (i : Nat) : Int := bothI (atI a b c d F (sqX p0 p2 i) (sqY p0 p1 p2 i)) (atI e f g h G (sqX p0 p2 i) (sqY p0 p1 p2 i))
/-- What two masks meet in. -/
def MeetRes (w : World) (r : Ending) (w' : World) (ok : Bool) (a b c d : Int) (F : Nat → Int) (e f g h : Int) (G : Nat → Int) : Prop :=
  MaskRes w r w' (boxV ok (meet0 a b c d e f g h)) (boxV ok (meet1 a b c d e f g h)) (boxV ok (meet2 a b c d e f g h)) (boxV ok (meet3 a b c d e f g h)) (boxK ok (sqN (meet0 a b c d e f g h) (meet1 a b c d e f g h) (meet2 a b c d e f g h) (meet3 a b c d e f g h))) (meetF (meet0 a b c d e f g h) (meet1 a b c d e f g h) (meet2 a b c d e f g h) a b c d F e f g h G)

set_option maxHeartbeats 8000000 in
set_option maxRecDepth 100000 in
theorem specMeetMask_any (a b c d : Int) (F : Nat → Int) (ao : Option Addr) (n ca : Nat) (hn : n ≤ 1048576) (e f g h : Int) (G : Nat → Int) (bo : Option Addr) (m cb : Nat) (hm : m ≤ 1048576) (w : World) (PA : ∀ i, i < n → IntAt w ao i (F i)) (PB : ∀ i, i < m → IntAt w bo i (G i)) :
    Calls Try.prog 19 #[.agg #[.int .i64 a, .int .i64 b, .int .i64 c, .int .i64 d, .slice ao n ca], .agg #[.int .i64 e, .int .i64 f, .int .i64 g, .int .i64 h, .slice bo m cb]] w fun r w' => MeetRes w r w' (maskOkB a b c d n F && maskOkB e f g h m G) a b c d F e f g h G := by
  obtain ⟨i1, hi1, hz1, hs1, hb1⟩ := info_parts Try.info3
  have EA := hide (fun u P => specMaskOk_any a b c d F ao n ca hn u P)
  have EB := hide (fun u P => specMaskOk_any e f g h G bo m cb hm u P)
  have EX := hide (specMeetBox_any a b c d e f g h)
  have ELA := hide (fun (hM : maskOkB a b c d n F = true) (x y : Int) u P => specL11Bits_any a b c d F ao n ca hn x y u P (maskOk_iff.1 hM))
  have ELB := hide (fun (hM : maskOkB e f g h m G = true) (x y : Int) u P => specL11Bits_any e f g h G bo m cb hm x y u P (maskOk_iff.1 hM))
  have hmi : Hid (maskOkB a b c d n F = true → maskOkB e f g h m G = true → ((meet0 a b c d e f g h = 0 ∧ meet1 a b c d e f g h = 0 ∧ meet2 a b c d e f g h = 0 ∧ meet3 a b c d e f g h = 0) ∨ boxInB (meet0 a b c d e f g h) (meet1 a b c d e f g h) (meet2 a b c d e f g h) (meet3 a b c d e f g h) = true) ∧ ∀ x y, (0 ≤ atI a b c d F x y ∧ atI a b c d F x y ≤ 15) ∧ (0 ≤ atI e f g h G x y ∧ atI e f g h G x y ≤ 15)) := fun h1 h2 => ⟨meet_in (maskOk_iff.1 h1) (maskOk_iff.1 h2), fun x y => ⟨at_bd (maskOk_iff.1 h1) x y, at_bd (maskOk_iff.1 h2) x y⟩⟩
  unfold MeetRes
  generalize maskOkB a b c d n F = oa at EA ELA hmi ⊢
  generalize maskOkB e f g h m G = ok at EB ELB hmi ⊢
  generalize meet0 a b c d e f g h = p0 at EX hmi ⊢
  generalize meet1 a b c d e f g h = p1 at EX hmi ⊢
  generalize meet2 a b c d e f g h = p2 at EX hmi ⊢
  generalize meet3 a b c d e f g h = p3 at EX hmi ⊢
  have hfm : Hid (∀ i, meetF p0 p1 p2 a b c d F e f g h G i = bothI (atI a b c d F (sqX p0 p2 i) (sqY p0 p1 p2 i)) (atI e f g h G (sqX p0 p2 i) (sqY p0 p1 p2 i))) := fun i => rfl
  generalize meetF p0 p1 p2 a b c d F e f g h G = mf at hfm ⊢
  generalize atI a b c d F = tA at ELA hmi hfm
  generalize atI e f g h G = tB at ELB hmi hfm
  replace PA := hide PA
  replace PB := hide PB
  obtain ⟨X, hX⟩ : ∃ X, Hid ((oa && ok) = X) := ⟨_, rfl⟩
  rw [unhide hX]
  obtain ⟨nn, hnn⟩ : ∃ nn, Hid (boxK X (sqN p0 p1 p2 p3) = nn) := ⟨_, rfl⟩
  rw [unhide hnn]
  obtain ⟨k0, hk0⟩ : ∃ k, Hid (boxV X p0 = k) := ⟨_, rfl⟩
  obtain ⟨k1, hk1⟩ : ∃ k, Hid (boxV X p1 = k) := ⟨_, rfl⟩
  obtain ⟨k2, hk2⟩ : ∃ k, Hid (boxV X p2 = k) := ⟨_, rfl⟩
  obtain ⟨k3, hk3⟩ : ∃ k, Hid (boxV X p3 = k) := ⟨_, rfl⟩
  rw [unhide hk0, unhide hk1, unhide hk2, unhide hk3]
  have hno : Hid (X = false → k0 = 0 ∧ k1 = 0 ∧ k2 = 0 ∧ k3 = 0 ∧ nn = 0) := fun hx => by
    subst hx; rw [← unhide hk0, ← unhide hk1, ← unhide hk2, ← unhide hk3, ← unhide hnn]; exact ⟨rfl, rfl, rfl, rfl, rfl⟩
  have hyes : Hid (X = true → k0 = p0 ∧ k1 = p1 ∧ k2 = p2 ∧ k3 = p3 ∧ nn = sqN p0 p1 p2 p3) := fun hx => by
    subst hx; rw [← unhide hk0, ← unhide hk1, ← unhide hk2, ← unhide hk3, ← unhide hnn]; exact ⟨rfl, rfl, rfl, rfl, rfl⟩
  clear hk0 hk1 hk2 hk3 hnn
  go_enter Try.func19, Try.ntmps19
  go_upto_region 1 with fail
  have R2 := hide (al3_0 w (.cells #[.int .i64 a, .int .i64 b, .int .i64 c, .int .i64 d, .slice ao n ca] 28) (.cells #[.int .i64 e, .int .i64 f, .int .i64 g, .int .i64 h, .slice bo m cb] 28) (.cells #[.int .i64 0, .int .i64 0, .int .i64 0, .int .i64 0, .slice none 0 0] 28))
  have R3 := hide (al3_1 w (.cells #[.int .i64 a, .int .i64 b, .int .i64 c, .int .i64 d, .slice ao n ca] 28) (.cells #[.int .i64 e, .int .i64 f, .int .i64 g, .int .i64 h, .slice bo m cb] 28) (.cells #[.int .i64 0, .int .i64 0, .int .i64 0, .int .i64 0, .slice none 0 0] 28))
  have R4 := hide (al3_2 w (.cells #[.int .i64 a, .int .i64 b, .int .i64 c, .int .i64 d, .slice ao n ca] 28) (.cells #[.int .i64 e, .int .i64 f, .int .i64 g, .int .i64 h, .slice bo m cb] 28) (.cells #[.int .i64 0, .int .i64 0, .int .i64 0, .int .i64 0, .slice none 0 0] 28))
  have HB := hide (al3_below w (.cells #[.int .i64 a, .int .i64 b, .int .i64 c, .int .i64 d, .slice ao n ca] 28) (.cells #[.int .i64 e, .int .i64 f, .int .i64 g, .int .i64 h, .slice bo m cb] 28) (.cells #[.int .i64 0, .int .i64 0, .int .i64 0, .int .i64 0, .slice none 0 0] 28))
  obtain ⟨b4, hb4⟩ : ∃ b, Hid (b = w.heap.size + 1 + 1) := ⟨_, rfl⟩
  obtain ⟨b3, hb3⟩ : ∃ b, Hid (b = w.heap.size + 1) := ⟨_, rfl⟩
  obtain ⟨b2, hb2⟩ : ∃ b, Hid (b = w.heap.size) := ⟨_, rfl⟩
  rw [← unhide hb4] at R4
  rw [← unhide hb3] at R3
  rw [← unhide hb2] at R2
  rw [← unhide hb4, ← unhide hb3, ← unhide hb2]
  generalize ((w.alloc (.cells #[.int .i64 a, .int .i64 b, .int .i64 c, .int .i64 d, .slice ao n ca] 28)).alloc (.cells #[.int .i64 e, .int .i64 f, .int .i64 g, .int .i64 h, .slice bo m cb] 28)).alloc (.cells #[.int .i64 0, .int .i64 0, .int .i64 0, .int .i64 0, .slice none 0 0] 28) = W at R2 R3 R4 HB ⊢
  have hwz := hide (show w.heap.size ≤ b4 by rw [unhide hb4]; omega)
  obtain ⟨q0, q1, q2, q3, q4⟩ := row5m (unhide R2)
  have EA1 := hide (unhide EA W (fun i hi => (unhide PA i hi).next (unhide HB)))
  clear EA
  go_wp2_with fail
  go_fit (unhide EA1)
  rintro r w1 ⟨rfl, hb⟩
  replace R2 := hide (row_next hb (unhide R2))
  replace R3 := hide (row_next hb (unhide R3))
  replace R4 := hide (row_next hb (unhide R4))
  replace HB := hide (below_two (unhide HB) hb)
  clear hb q0 q1 q2 q3 q4 EA1
  cases oa with
  | false =>
    obtain ⟨rfl, rfl, rfl, rfl, rfl⟩ := unhide hno (by rw [← unhide hX]; rfl)
    obtain ⟨e0, e1, e2, e3, e4⟩ := row5m (unhide R4)
    obtain ⟨f0, f1, f2, f3, f4⟩ := frozen5 (unhide R4)
    go_wp2_with fail
    refine bodyPost_ret (v := .agg #[.int .i64 0, .int .i64 0, .int .i64 0, .int .i64 0, .slice none 0 0]) (by simp [results, Try.results19, go_sem, e0, e1, e2, e3, e4]) rfl ?_
    exact mask_none (below_put5 (unhide HB) (unhide hwz) _ _ _ _ _)
  | true =>
  obtain ⟨q0, q1, q2, q3, q4⟩ := row5m (unhide R3)
  have EB1 := hide (unhide EB w1 (fun i hi => (unhide PB i hi).next (unhide HB)))
  clear EB
  go_wp2_with fail
  go_fit (unhide EB1)
  rintro r w2 ⟨rfl, hb⟩
  replace R2 := hide (row_next hb (unhide R2))
  replace R3 := hide (row_next hb (unhide R3))
  replace R4 := hide (row_next hb (unhide R4))
  replace HB := hide (below_two (unhide HB) hb)
  clear hb q0 q1 q2 q3 q4 EB1
  cases ok with
  | false =>
    obtain ⟨rfl, rfl, rfl, rfl, rfl⟩ := unhide hno (by rw [← unhide hX]; rfl)
    obtain ⟨e0, e1, e2, e3, e4⟩ := row5m (unhide R4)
    obtain ⟨f0, f1, f2, f3, f4⟩ := frozen5 (unhide R4)
    go_wp2_with fail
    refine bodyPost_ret (v := .agg #[.int .i64 0, .int .i64 0, .int .i64 0, .int .i64 0, .slice none 0 0]) (by simp [results, Try.results19, go_sem, e0, e1, e2, e3, e4]) rfl ?_
    exact mask_none (below_put5 (unhide HB) (unhide hwz) _ _ _ _ _)
  | true =>
  obtain ⟨rfl, rfl, rfl, rfl, hnn⟩ := unhide hyes (by rw [← unhide hX]; rfl)
  obtain ⟨hpi, hbd⟩ := unhide hmi (by trivial) (by trivial)
  replace hbd := hide hbd
  clear hno hyes hX hmi
  obtain ⟨W0, hW0⟩ : ∃ W0, W0 = wideN k0 k2 := ⟨_, rfl⟩
  obtain ⟨H0, hH0⟩ : ∃ H0, H0 = wideN k1 k3 := ⟨_, rfl⟩
  have hsq : nn = H0 * W0 := by rw [hnn]; unfold sqN; rw [hW0, hH0, Nat.mul_comm]
  subst hsq
  have hpb : k0 ≤ k2 ∧ k1 ≤ k3 ∧ -2000 ≤ k0 ∧ -2000 ≤ k1 ∧ k2 ≤ 2000 ∧ k3 ≤ 2000 ∧ k2 - k0 ≤ 60 ∧ k3 - k1 ≤ 60 := by
    rcases hpi with ⟨rfl, rfl, rfl, rfl⟩ | hpi
    · omega
    · rw [boxIn_iff] at hpi; omega
  have hWi : (W0 : Int) = k2 - k0 := by rw [hW0]; unfold wideN; omega
  have hHi : (H0 : Int) = k3 - k1 := by rw [hH0]; unfold wideN; omega
  have hat : Hid (∀ j t : Nat, t < W0 → mf (j * W0 + t) = bothI (tA (k0 + (t : Int)) (k1 + (j : Int))) (tB (k0 + (t : Int)) (k1 + (j : Int)))) := fun j t ht => by
    rw [unhide hfm, (sq_at (b := k1) hW0 ht).1, (sq_at (b := k1) hW0 ht).2]
  have hWl : W0 ≤ 60 := by omega
  have hHl : H0 ≤ 60 := by omega
  clear hfm hW0 hH0 hpi hnn
  obtain ⟨q0, q1, q2, q3, q4⟩ := row5m (unhide R2)
  obtain ⟨t0, t1, t2, t3, t4⟩ := row5m (unhide R3)
  go_wp2_with fail
  go_fit (unhide EX _)
  rintro r w3 ⟨rfl, hb⟩
  replace R2 := hide (row_next hb (unhide R2))
  replace R3 := hide (row_next hb (unhide R3))
  replace R4 := hide (row_next hb (unhide R4))
  replace HB := hide (below_two (unhide HB) hb)
  clear hb q0 q1 q2 q3 q4 t0 t1 t2 t3 t4 EX
  go_upto_region 4 with fail
  have R7 := hide (new_row w3 (.cells #[.int .i64 k0, .int .i64 k1, .int .i64 k2, .int .i64 k3, .slice none 0 0] 28))
  have hn1 := al1_below w3 (.cells #[.int .i64 k0, .int .i64 k1, .int .i64 k2, .int .i64 k3, .slice none 0 0] 28)
  have l2 := hide (show b2 < w3.heap.size from heap_lt (unhide R2))
  have l3 := hide (show b3 < w3.heap.size from heap_lt (unhide R3))
  have l4 := hide (show b4 < w3.heap.size from heap_lt (unhide R4))
  have lw := hide (show w.heap.size ≤ w3.heap.size from (unhide HB).size)
  replace R2 := hide (row_next hn1 (unhide R2))
  replace R3 := hide (row_next hn1 (unhide R3))
  replace R4 := hide (row_next hn1 (unhide R4))
  replace HB := hide (below_two (unhide HB) hn1)
  have sz := hide (show (w3.alloc (.cells #[.int .i64 k0, .int .i64 k1, .int .i64 k2, .int .i64 k3, .slice none 0 0] 28)).heap.size = w3.heap.size + 1 by simp)
  clear hn1
  generalize w3.alloc (.cells #[.int .i64 k0, .int .i64 k1, .int .i64 k2, .int .i64 k3, .slice none 0 0] 28) = W3 at R2 R3 R4 R7 HB sz ⊢
  generalize w3.heap.size = ob at R7 l2 l3 l4 lw sz ⊢
  have GR := hide (show Grow w W3 b4 ob k0 k1 k2 k3 mf 0 none 0 from ⟨unhide R4, unhide R7, World.ownsRow_nil _ _ _ _, unhide HB, by rw [unhide sz]; exact Nat.le_refl _⟩)
  clear R4 R7 HB sz
  obtain ⟨q0, q1, q2, q3, q4⟩ := row5m (unhide GR).row
  go_upto_region 5 with fail
  clear q0 q1 q2 q3 q4
  go_loopw [6] (fun y u => ∃ (j : Nat) (p : Option Addr) (cp : Nat), j ≤ H0 ∧ y = .int .i64 (k1 + (j : Int)) ∧ Hid (Grow w u b4 ob k0 k1 k2 k3 mf (j * W0) p cp) ∧ Hid (u.heap[b2]? = some (.cells #[.int .i64 a, .int .i64 b, .int .i64 c, .int .i64 d, .slice ao n ca] 28 (0, 0))) ∧ Hid (u.heap[b3]? = some (.cells #[.int .i64 e, .int .i64 f, .int .i64 g, .int .i64 h, .slice bo m cb] 28 (0, 0)))) (fun y _ => (k3 - intOf y).toNat)
  case atStart => exact ⟨0, none, 0, Nat.zero_le _, by simp, by rw [Nat.zero_mul]; exact GR, R2, R3⟩
  case round =>
    clear GR R2 R3
    obtain ⟨j, p, cp, hj, rfl, GR, R2, R3⟩ := hrel
    obtain ⟨q0, q1, q2, q3, q4⟩ := row5m (unhide GR).row
    by_cases hlt : j < H0
    · have hji : k1 + (j : Int) < k3 := by omega
      have wj : IntKind.i64.wrap (k1 + (j : Int) + 1) = k1 + (j : Int) + 1 := IntWalk.i64_in _ (by omega)
      go_upto_region 8 with fail
      clear q0 q1 q2 q3 q4
      go_loopw [7] (fun x u => ∃ (t : Nat) (p : Option Addr) (cp : Nat), t ≤ W0 ∧ x = .int .i64 (k0 + (t : Int)) ∧ Hid (Grow w u b4 ob k0 k1 k2 k3 mf (j * W0 + t) p cp) ∧ Hid (u.heap[b2]? = some (.cells #[.int .i64 a, .int .i64 b, .int .i64 c, .int .i64 d, .slice ao n ca] 28 (0, 0))) ∧ Hid (u.heap[b3]? = some (.cells #[.int .i64 e, .int .i64 f, .int .i64 g, .int .i64 h, .slice bo m cb] 28 (0, 0)))) (fun x _ => (k2 - intOf x).toNat)
      case atStart => exact ⟨0, p, cp, Nat.zero_le _, by simp, GR, R2, R3⟩
      case round =>
        clear GR R2 R3
        obtain ⟨t, p, cp, ht, rfl, GR, R2, R3⟩ := hrel
        obtain ⟨q0, q1, q2, q3, q4⟩ := row5m (unhide GR).row
        by_cases hlt' : t < W0
        · have hti : k0 + (t : Int) < k2 := by omega
          have wt : IntKind.i64.wrap (k0 + (t : Int) + 1) = k0 + (t : Int) + 1 := IntWalk.i64_in _ (by omega)
          have hk : j * W0 + t ≤ 1048576 := by
            have : j * W0 ≤ 60 * 60 := Nat.mul_le_mul (by omega) hWl
            omega
          have hz := hide (unhide hat j t hlt')
          have EA1 := hide (fun u (hu : Below wr.heap.size wr u) => unhide ELA (by trivial) (k0 + (t : Int)) (k1 + (j : Int)) u (fun i hi => ((unhide PA i hi).next (unhide GR).bel).next hu))
          have EB1 := hide (fun u (hu : Below wr.heap.size wr u) => unhide ELB (by trivial) (k0 + (t : Int)) (k1 + (j : Int)) u (fun i hi => ((unhide PB i hi).next (unhide GR).bel).next hu))
          obtain ⟨hba, hbb⟩ := unhide hbd (k0 + (t : Int)) (k1 + (j : Int))
          generalize tA (k0 + (t : Int)) (k1 + (j : Int)) = zA at hz EA1 hba
          generalize tB (k0 + (t : Int)) (k1 + (j : Int)) = zB at hz EB1 hbb
          have EC := hide (specL11Both_any zA zB hba hbb)
          generalize bothI zA zB = z at hz EC
          clear hba hbb
          obtain ⟨k, hkk⟩ : ∃ k, Hid (k = j * W0 + t) := ⟨_, rfl⟩
          rw [← unhide hkk] at GR hk hz
          replace hk := hide hk
          obtain ⟨c0, c1, c2, c3, c4⟩ := row5m (unhide GR).row
          go_upto_region 10 with fail
          clear q0 q1 q2 q3 q4 c0 c1 c2 c3
          obtain ⟨q0, q1, q2, q3, q4⟩ := row5m (unhide R2)
          obtain ⟨t0, t1, t2, t3, t4⟩ := row5m (unhide R3)
          go_region_law (first | (refine step_call rfl 59 _ (by go_simp) (unhide EA1 _ (Below.refl _ _).drew) ?_; rintro r w5 ⟨rfl, hb5⟩; refine ⟨_, rfl, ?_⟩; have y4 := kc hb5 c4; have s0 := kc hb5 t0; have s1 := kc hb5 t1; have s2 := kc hb5 t2; have s3 := kc hb5 t3; have s4 := kc hb5 t4; have D5 := hide (show Below wr.heap.size wr w5 from below_undrew hb5)) | (refine step_call rfl 59 _ (by go_simp) (unhide EB1 _ (unhide D5)) ?_; rintro r w6 ⟨rfl, hb6⟩; refine ⟨_, rfl, ?_⟩; have z4 := kc hb6 y4; have z5 := kn (.cells #[.int .i64 z] 3) z4; have D6 := hide (below_two (unhide D5) hb6)) | (refine step_append_i (w5 := w6) (wr := wr) rfl _ _ 26 rfl (ob + 1) i1 (.int .i64 0) Try.underlying26 hi1 hz1 hs1 hb1 rfl (.slice p k cp) k ((listN mf k).map Iv) (by rfl) z 1 (by rfl) (unhide GR).own (unhide hk) (unhide GR).size (unhide D6) ?_; intro v' w8 O8 D8; obtain ⟨p', cp', rfl⟩ := own_form O8; obtain ⟨g0, g1, g2, g3, g4⟩ := row5m ((D8.block ob (Nat.lt_succ_self _)).trans (unhide GR).row); obtain ⟨f0, f1, f2, f3, f4⟩ := frozen5 ((D8.block ob (Nat.lt_succ_self _)).trans (unhide GR).row); replace O8 := hide O8; replace D8 := hide D8) | (refine step_call rfl 58 _ (by go_simp) (unhide EC _) ?_; rintro r w7 ⟨rfl, h7⟩; rw [h7]; clear h7 w7; refine ⟨_, rfl, ?_⟩))
          all_goals
            have S2 := hide (setc_other (b := ob) (j := 4) (v := .slice p' (k + 1) cp') (by have := unhide l2; omega) (((unhide D8).block b2 (by have := unhide l2; omega)).trans (unhide R2)))
            have S3 := hide (setc_other (b := ob) (j := 4) (v := .slice p' (k + 1) cp') (by have := unhide l3; omega) (((unhide D8).block b3 (by have := unhide l3; omega)).trans (unhide R3)))
            have G8 := hide ((unhide GR).put (unhide lw) (unhide l4) (unhide hz) (unhide O8) (unhide D8))
            clear z4 z5 y4 s0 s1 s2 s3 s4 g0 g1 g2 g3 f0 f1 f2 f3 c4 q0 q1 q2 q3 q4 t0 t1 t2 t3 t4
            go_wp2_with fail
            go_roundw
            case rel => exact ⟨t + 1, p', cp', by omega, congrArg (Value.int .i64) (by push_cast; omega), by rw [show j * W0 + (t + 1) = k + 1 by rw [unhide hkk]; omega]; exact G8, S2, S3⟩
            case measure => simp [intOf]; omega
        · have hte : t = W0 := by omega
          subst hte
          have hti : ¬ k0 + (t : Int) < k2 := by omega
          go_wp2_with fail
          go_roundw
          case rel => exact ⟨j + 1, p, cp, by omega, congrArg (Value.int .i64) (by push_cast; omega), by rw [Nat.succ_mul]; exact GR, R2, R3⟩
          case measure => simp [intOf]; omega
    · have hje : j = H0 := by omega
      subst hje
      have hji : ¬ k1 + (j : Int) < k3 := by omega
      obtain ⟨e0, e1, e2, e3, e4⟩ := row5m (unhide GR).zero
      obtain ⟨f0, f1, f2, f3, f4⟩ := frozen5 (unhide GR).zero
      go_wp2_with fail
      refine bodyPost_ret (v := .agg #[.int .i64 k0, .int .i64 k1, .int .i64 k2, .int .i64 k3, .slice p (j * W0) cp]) (by simp [results, Try.results19, go_sem, e0, e1, e2, e3, e4]) rfl ?_
      exact (unhide GR).res (unhide hwz) (unhide l4)
end Go.Proofs.Ytjnnaaafehndpaa
