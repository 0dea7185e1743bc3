/-
  The program's right surfaces, their squares, two surfaces held against each other.
-/
import Derived.Test.YtmomgbnhildpdabSurfI
import Derived.Test.YtmomgbnhildpdabSurfE
namespace Go.Proofs.Ytmomgbnhildpdab
open Go.RowKit
set_option linter.unusedVariables false

set_option maxHeartbeats 4000000 in
set_option maxRecDepth 100000 in
theorem implSurfaceOk_any (x y : Int) (f : Nat → B4) (ao : Option Addr) (n cp : Nat) (hn : n ≤ 1048576) (hc : n ≤ cp) (hao : ao = none → cp = 0) (w : World) (P : ∀ i, i < n → ClAt w ao i (f i)) :
    Calls Try.prog 43 #[.agg #[.int .i64 x, .int .i64 y, .slice ao n cp]] w fun r w' => r = .returned (.bool (surfOkB x y n f)) ∧ Below w.heap.size w w' := by
  have EX := hide (implSideOk_any x)
  have EY := hide (implSideOk_any y)
  replace P := hide P
  have hyes : Hid (SOk x y n f → surfOkB x y n f = true) := fun h => surfOk_iff.2 h
  have hno : Hid (¬ SOk x y n f → surfOkB x y n f = false) := fun h => surfOk_no h
  generalize surfOkB x y n f = X at hyes hno ⊢
  have hS : Hid (SOk x y n f ↔ (inB x 1 12 = true) ∧ (inB y 1 12 = true) ∧ (n : Int) = x * y ∧ ∀ i, i < n → laidOkB (f i) = true) := by unfold Hid SOk; rw [inB_true, inB_true]
  have hpr : Hid (inB x 1 12 = true → inB y 1 12 = true → IntKind.i64.wrap (x * y) = x * y) := fun h1 h2 => IntWalk.i64_in _ (by have := side_prod (inB_true.1 h1) (inB_true.1 h2); omega)
  generalize SOk x y n f = M at hyes hno hS
  generalize inB x 1 12 = ix at EX hS hpr
  generalize inB y 1 12 = iy at EY hS hpr
  go_enter Try.func43, Try.ntmps43
  go_upto_region 1 with fail
  have R := hide (new_row w (.cells #[.int .i64 x, .int .i64 y, .slice ao n cp] 28))
  have HB := hide (al1_below w (.cells #[.int .i64 x, .int .i64 y, .slice ao n cp] 28))
  obtain ⟨b1, hb1⟩ : ∃ b, Hid (b = w.heap.size) := ⟨_, rfl⟩
  rw [← unhide hb1] at R
  rw [← unhide hb1]
  generalize w.alloc (.cells #[.int .i64 x, .int .i64 y, .slice ao n cp] 28) = W at R HB ⊢
  obtain ⟨r0, r1, r2⟩ := row3 (unhide R)
  go_wp2_with fail
  go_fit (unhide EX _)
  rintro r u1 ⟨rfl, rfl⟩
  cases ix with
  | false =>
    have hX := hide (unhide hno (fun h => by have := (unhide hS).1 h; cases this.1))
    go_wp2_with fail
    go_ret
    exact ⟨ret_bool (unhide hX).symm, unhide HB⟩
  | true =>
  go_wp2_with fail
  go_fit (unhide EY _)
  rintro r u1 ⟨rfl, rfl⟩
  cases iy with
  | false =>
    have hX := hide (unhide hno (fun h => by have := (unhide hS).1 h; cases this.2.1))
    go_wp2_with fail
    go_ret
    exact ⟨ret_bool (unhide hX).symm, unhide HB⟩
  | true =>
    have w3 := unhide hpr (by trivial) (by trivial)
    by_cases hq : (n : Int) = x * y
    · have hq1 := hide hq
      have w4 : IntKind.i64.wrap (x * y) = (n : Int) := by rw [w3, hq]
      clear w3 hq
      go_upto_region 4 with fail
      go_wp2_with fail
      clear r0 r1 r2 w4
      go_loopw [29] (fun i u => ∃ k : Nat, k ≤ n ∧ i = .int .i64 k ∧ Hid (∀ j, j < k → laidOkB (f j) = true) ∧ Hid (Below w.heap.size w u)) (fun i _ => n - (intOf i).toNat)
      case atStart => exact ⟨0, Nat.zero_le _, rfl, fun j hj => absurd hj (by omega), HB⟩
      case round =>
        clear HB R
        obtain ⟨k, hk, rfl, HK, HB⟩ := hrel
        by_cases hlt : k < n
        · have HP := (unhide P k hlt).next (unhide HB)
          obtain ⟨z, hz⟩ : ∃ z, Hid (f k = z) := ⟨_, rfl⟩
          rw [unhide hz] at HP
          obtain ⟨z0, z1, z2, z3⟩ := z
          obtain ⟨s0, o0, rfl, g0, g1, g2, g3⟩ := HP
          dsimp only at g0 g1 g2 g3
          have EI := hide (implLaidOk_any z0 z1 z2 z3)
          have hki : (k : Int) < (n : Int) := by omega
          cases hi : laidOkB ⟨z0, z1, z2, z3⟩ with
          | false =>
            rw [hi] at EI
            have hX := hide (unhide hno (fun h => by have := ((unhide hS).1 h).2.2.2 k hlt; rw [unhide hz, hi] at this; cases this))
            clear hi
            go_wp2_with fail
            go_fit (unhide EI _)
            rintro r u2 ⟨rfl, hb⟩
            replace HB := hide (below_two (unhide HB) (below_two (al1_below _ _) hb))
            go_wp2_with fail
            go_ret
            exact ⟨ret_bool (unhide hX).symm, unhide HB⟩
          | true =>
            rw [hi] at EI
            have HK2 : Hid (∀ j, j < k + 1 → laidOkB (f j) = true) := cols_more (unhide HK) (by rw [unhide hz]; exact hi)
            clear hi
            go_wp2_with fail
            go_fit (unhide EI _)
            rintro r u2 ⟨rfl, hb⟩
            replace HB := hide (below_two (unhide HB) (below_two (al1_below _ _) hb))
            clear hb g0 g1 g2 g3
            go_wp2_with fail
            go_roundw
            case rel => exact ⟨k + 1, by omega, by go_num, HK2, HB⟩
            case measure => simp [intOf]; omega
        · have hke : k = n := by omega
          subst hke
          have hki : ¬ (k : Int) < (k : Int) := by omega
          have hX := hide (unhide hyes ((unhide hS).2 ⟨by trivial, by trivial, unhide hq1, unhide HK⟩))
          go_wp2_with fail
          go_ret
          exact ⟨ret_bool (unhide hX).symm, unhide HB⟩
    · have hX := hide (unhide hno (fun h => hq ((unhide hS).1 h).2.2.1))
      have hqb : ((n : Int) == x * y) = false := beq_eq_false_iff_ne.2 hq
      go_wp2_with fail
      go_ret
      exact ⟨ret_bool (unhide hX).symm, unhide HB⟩

set_option maxHeartbeats 4000000 in
set_option maxRecDepth 100000 in
theorem equalCols_any (G H : Nat → B4) (ao : Option Addr) (n ca : Nat) (bo : Option Addr) (m cb : Nat) (X : Bool) (hX : X = true ↔ n = m ∧ ∀ i, i < n → G i = H i) (hn : n ≤ 1048576) (hm : m ≤ 1048576) (w : World) (PA : ∀ i, i < n → ClAt w ao i (G i)) (PB : ∀ i, i < m → ClAt w bo i (H i)) :
    Calls Try.prog 53 #[.slice ao n ca, .slice bo m cb] w fun r w' => r = .returned (.bool X) ∧ Below w.heap.size w w' := by
  replace hX := hide hX
  replace PA := hide PA
  replace PB := hide PB
  by_cases hnm : n = m
  · subst hnm
    have hX2 : Hid (X = true ↔ ∀ i, i < n → G i = H i) := by unfold Hid; rw [unhide hX]; simp
    clear hX
    go_enter Try.func53, Try.ntmps53
    go_upto_region 4 with fail
    go_loopw [13] (fun i u => ∃ k : Nat, k ≤ n ∧ i = .int .i64 (k : Int) ∧ Hid (∀ j, j < k → G j = H j) ∧ Hid (Below w.heap.size w u)) (fun i _ => n - (intOf i).toNat)
    case atStart => exact ⟨0, Nat.zero_le _, rfl, fun j hj => absurd hj (by omega), Below.refl _ _⟩
    case round =>
      obtain ⟨k, hk, rfl, HK, HB⟩ := hrel
      by_cases hlt : k < n
      · have hki : (k : Int) < (n : Int) := by omega
        obtain ⟨s, o, rfl, g0, g1, g2, g3⟩ := (unhide PA k hlt).next (unhide HB)
        obtain ⟨s', o', rfl, p0, p1, p2, p3⟩ := (unhide PB k hlt).next (unhide HB)
        have hne : Hid (G k = H k ↔ G k = H k) := Iff.rfl
        obtain ⟨r, hr⟩ : ∃ r, Hid (G k = r) := ⟨_, rfl⟩
        obtain ⟨q, hq⟩ : ∃ q, Hid (H k = q) := ⟨_, rfl⟩
        rw [unhide hr] at g0 g1 g2 g3
        rw [unhide hq] at p0 p1 p2 p3
        obtain ⟨r0, r1, r2, r3⟩ := r
        obtain ⟨q0, q1, q2, q3⟩ := q
        dsimp only at g0 g1 g2 g3 p0 p1 p2 p3
        by_cases he : r0 = q0 ∧ r1 = q1 ∧ r2 = q2 ∧ r3 = q3
        · obtain ⟨rfl, rfl, rfl, rfl⟩ := he
          have eq1 : ∀ u, (Op.equalIn 10000 71 (.agg #[.int .i64 r0, .int .i64 r1, .int .i64 r2, .int .i64 r3]) (.agg #[.int .i64 r0, .int .i64 r1, .int .i64 r2, .int .i64 r3])).run Try.prog u = .ok true u := fun u => by rw [eqlColor]; simp
          have HK2 : Hid (∀ j, j < k + 1 → G j = H j) := fun j hj => by
            by_cases e : j = k
            · rw [e, unhide hr, unhide hq]
            · exact unhide HK j (by omega)
          go_upto_region 6 with fail
          go_quiet (fail)
          have HB2 := hide (below_drews (unhide HB) nq)
          go_wp2_with fail
          go_roundw
          case rel => exact ⟨k + 1, by omega, by go_num, HK2, HB2⟩
          case measure => simp [intOf]; omega
        · have hf : (decide (r0 = q0) && (decide (r1 = q1) && (decide (r2 = q2) && decide (r3 = q3)))) = false := by
            rw [Bool.eq_false_iff]; intro h; simp only [Bool.and_eq_true, decide_eq_true_eq] at h; exact he h
          have eq1 : ∀ u, (Op.equalIn 10000 71 (.agg #[.int .i64 r0, .int .i64 r1, .int .i64 r2, .int .i64 r3]) (.agg #[.int .i64 q0, .int .i64 q1, .int .i64 q2, .int .i64 q3])).run Try.prog u = .ok false u := fun u => by rw [eqlColor, hf]
          have hX3 : Hid (false = X) := by
            cases X with
            | false => rfl
            | true =>
              exfalso
              have := (unhide hX2).1 rfl k hlt
              rw [unhide hr, unhide hq] at this
              cases this
              exact he ⟨rfl, rfl, rfl, rfl⟩
          clear hf he
          go_upto_region 6 with fail
          go_quiet (fail)
          have HB2 := hide (below_drews (unhide HB) nq)
          go_wp2_with fail
          go_ret
          exact ⟨ret_bool (unhide hX3), unhide HB2⟩
      · obtain rfl : k = n := by omega
        have hki : ¬ (k : Int) < (k : Int) := by omega
        have hX3 : Hid (true = X) := ((unhide hX2).2 (unhide HK)).symm
        go_wp2_with fail
        go_ret
        exact ⟨ret_bool (unhide hX3), unhide HB⟩
  · have hX3 : Hid (false = X) := by
      cases X with
      | false => rfl
      | true => exact absurd ((unhide hX).1 rfl).1 hnm
    have hnb : ((n : Int) == (m : Int)) = false := beq_eq_false_iff_ne.2 (by omega)
    go_enter Try.func53, Try.ntmps53
    go_wp2_with fail
    go_ret
    exact ⟨ret_bool (unhide hX3), Below.refl _ _⟩

set_option maxHeartbeats 4000000 in
set_option maxRecDepth 100000 in
theorem implSameSurface_any (x y : Int) (f : Nat → B4) (ao : Option Addr) (n ca : Nat) (hn : n ≤ 1048576) (hca : n ≤ ca) (hao : ao = none → ca = 0) (x' y' : Int) (f' : Nat → B4) (bo : Option Addr) (m cb : Nat) (hm : m ≤ 1048576) (hcb : m ≤ cb) (hbo : bo = none → cb = 0) (w : World) (PA : ∀ i, i < n → ClAt w ao i (f i)) (PB : ∀ i, i < m → ClAt w bo i (f' i)) :
    Calls Try.prog 17 #[.agg #[.int .i64 x, .int .i64 y, .slice ao n ca], .agg #[.int .i64 x', .int .i64 y', .slice bo m cb]] w fun r w' => r = .returned (.bool (sameSB x y n f x' y' m f')) ∧ Below w.heap.size w w' := by
  obtain ⟨Z, hZ⟩ : ∃ Z : Bool, Hid (Z = true ↔ n = m ∧ ∀ i, i < n → f i = f' i) := by
    by_cases h : n = m ∧ ∀ i, i < n → f i = f' i
    · exact ⟨true, by unfold Hid; exact ⟨fun _ => h, fun _ => rfl⟩⟩
    · exact ⟨false, by unfold Hid; exact ⟨fun e => (by cases e), fun e => absurd e h⟩⟩
  have EQ := hide (fun u (hu : Below w.heap.size w u) => equalCols_any f f' ao n ca bo m cb Z (unhide hZ) hn hm u (fun i hi => (PA i hi).next hu) (fun i hi => (PB i hi).next hu))
  clear PA PB
  have hyes : Hid (SameS x y n f x' y' m f' → sameSB x y n f x' y' m f' = true) := fun h => sameS_iff.2 h
  have hno : Hid (¬ SameS x y n f x' y' m f' → sameSB x y n f x' y' m f' = false) := fun h => sameS_no h
  generalize sameSB x y n f x' y' m f' = X at hyes hno ⊢
  go_enter Try.func17, Try.ntmps17
  go_upto_region 1 with fail
  have R2 := hide (al2_0 w (.cells #[.int .i64 x, .int .i64 y, .slice ao n ca] 28) (.cells #[.int .i64 x', .int .i64 y', .slice bo m cb] 28))
  have R3 := hide (al2_1 w (.cells #[.int .i64 x, .int .i64 y, .slice ao n ca] 28) (.cells #[.int .i64 x', .int .i64 y', .slice bo m cb] 28))
  have HB := hide (al2_below w (.cells #[.int .i64 x, .int .i64 y, .slice ao n ca] 28) (.cells #[.int .i64 x', .int .i64 y', .slice bo m cb] 28))
  obtain ⟨b3, hb3⟩ : ∃ b, Hid (b = w.heap.size + 1) := ⟨_, rfl⟩
  obtain ⟨b2, hb2⟩ : ∃ b, Hid (b = w.heap.size) := ⟨_, rfl⟩
  rw [← unhide hb3] at R3
  rw [← unhide hb2] at R2
  rw [← unhide hb3, ← unhide hb2]
  generalize (w.alloc (.cells #[.int .i64 x, .int .i64 y, .slice ao n ca] 28)).alloc (.cells #[.int .i64 x', .int .i64 y', .slice bo m cb] 28) = W at R2 R3 HB ⊢
  clear hb3 hb2
  obtain ⟨r0, r1, r2⟩ := row3 (unhide R2)
  obtain ⟨s0, s1, s2⟩ := row3 (unhide R3)
  by_cases hx : x = x'
  · by_cases hy : y = y'
    · subst hx hy
      have EQ0 := hide (unhide EQ _ (unhide HB))
      go_wp2_with fail
      go_fit (unhide EQ0)
      rintro r u ⟨rfl, hb⟩
      replace HB := hide (below_two (unhide HB) hb)
      have hX : Hid (Z = X) := by
        unfold Hid
        cases Z with
        | true => exact (unhide hyes ⟨rfl, rfl, ((unhide hZ).1 rfl).1, ((unhide hZ).1 rfl).2⟩).symm
        | false => exact (unhide hno (fun h => by have := (unhide hZ).2 ⟨h.2.2.1, h.2.2.2⟩; cases this)).symm
      clear hyes hno hZ EQ EQ0 hb r0 r1 r2 s0 s1 s2
      go_wp2_with fail
      go_ret
      exact ⟨ret_bool (unhide hX), unhide HB⟩
    · have hX := hide (unhide hno (fun h => hy h.2.1))
      have hyb : (y == y') = false := beq_eq_false_iff_ne.2 hy
      subst hx
      go_wp2_with fail
      go_ret
      exact ⟨ret_bool (unhide hX).symm, unhide HB⟩
  · have hX := hide (unhide hno (fun h => hx h.1))
    have hxb : (x == x') = false := beq_eq_false_iff_ne.2 hx
    go_wp2_with fail
    go_ret
    exact ⟨ret_bool (unhide hX).symm, unhide HB⟩

end Go.Proofs.Ytmomgbnhildpdab
