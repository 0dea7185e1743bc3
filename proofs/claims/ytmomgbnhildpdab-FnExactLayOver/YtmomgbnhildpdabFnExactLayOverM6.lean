/-
  SurfH · BlendJ · BlendK: texts of one claim, in one.
-/
import Derived.Test.YtmomgbnhildpdabFnExactLayOverM5
import Derived.Lib.MinMax

/-
  The program's right surfaces, their squares, two surfaces held against each other.
-/
namespace Go.Proofs.Ytmomgbnhildpdab
open Go.RowKit
set_option linter.unusedVariables false

set_option maxHeartbeats 4000000 in
set_option maxRecDepth 100000 in
theorem implSurfaceOk_any (x y : Int) (f : Nat → B4) (ao : Option Addr) (n cp : Nat) (hn : n ≤ 1048576) (hc : n ≤ cp) (hao : ao = none → cp = 0) (w : World) (P : ∀ i, i < n → ClAt w ao i (f i)) :
    Calls Try.prog 43 #[.agg #[.int .i64 x, .int .i64 y, .slice ao n cp]] w fun r w' => r = .returned (.bool (surfOkB x y n f)) ∧ Below w.heap.size w w' := by
  have EX := hide (implSideOk_any x)
  have EY := hide (implSideOk_any y)
  replace P := hide P
  have hyes : Hid (SOk x y n f → surfOkB x y n f = true) := fun h => surfOk_iff.2 h
  have hno : Hid (¬ SOk x y n f → surfOkB x y n f = false) := fun h => surfOk_no h
  generalize surfOkB x y n f = X at hyes hno ⊢
  have hS : Hid (SOk x y n f ↔ (inB x 1 12 = true) ∧ (inB y 1 12 = true) ∧ (n : Int) = x * y ∧ ∀ i, i < n → laidOkB (f i) = true) := by unfold Hid SOk; rw [inB_true, inB_true]
  have hpr : Hid (inB x 1 12 = true → inB y 1 12 = true → IntKind.i64.wrap (x * y) = x * y) := fun h1 h2 => IntWalk.i64_in _ (by have := side_prod (inB_true.1 h1) (inB_true.1 h2); omega)
  generalize SOk x y n f = M at hyes hno hS
  generalize inB x 1 12 = ix at EX hS hpr
  generalize inB y 1 12 = iy at EY hS hpr
  go_enter Try.func43, Try.ntmps43
  go_upto_region 1 with fail
  have R := hide (new_row w (.cells #[.int .i64 x, .int .i64 y, .slice ao n cp] 28))
  have HB := hide (al1_below w (.cells #[.int .i64 x, .int .i64 y, .slice ao n cp] 28))
  obtain ⟨b1, hb1⟩ : ∃ b, Hid (b = w.heap.size) := ⟨_, rfl⟩
  rw [← unhide hb1] at R
  rw [← unhide hb1]
  generalize w.alloc (.cells #[.int .i64 x, .int .i64 y, .slice ao n cp] 28) = W at R HB ⊢
  obtain ⟨r0, r1, r2⟩ := row3 (unhide R)
  go_wp2_with fail
  go_fit (unhide EX _)
  rintro r u1 ⟨rfl, rfl⟩
  cases ix with
  | false =>
    have hX := hide (unhide hno (fun h => by have := (unhide hS).1 h; cases this.1))
    go_wp2_with fail
    go_ret
    exact ⟨ret_bool (unhide hX).symm, unhide HB⟩
  | true =>
  go_wp2_with fail
  go_fit (unhide EY _)
  rintro r u1 ⟨rfl, rfl⟩
  cases iy with
  | false =>
    have hX := hide (unhide hno (fun h => by have := (unhide hS).1 h; cases this.2.1))
    go_wp2_with fail
    go_ret
    exact ⟨ret_bool (unhide hX).symm, unhide HB⟩
  | true =>
    have w3 := unhide hpr (by trivial) (by trivial)
    by_cases hq : (n : Int) = x * y
    · have hq1 := hide hq
      have w4 : IntKind.i64.wrap (x * y) = (n : Int) := by rw [w3, hq]
      clear w3 hq
      go_upto_region 4 with fail
      go_wp2_with fail
      clear r0 r1 r2 w4
      go_loopw [29] (fun i u => ∃ k : Nat, k ≤ n ∧ i = .int .i64 k ∧ Hid (∀ j, j < k → laidOkB (f j) = true) ∧ Hid (Below w.heap.size w u)) (fun i _ => n - (intOf i).toNat)
      case atStart => exact ⟨0, Nat.zero_le _, rfl, fun j hj => absurd hj (by omega), HB⟩
      case round =>
        clear HB R
        obtain ⟨k, hk, rfl, HK, HB⟩ := hrel
        by_cases hlt : k < n
        · have HP := (unhide P k hlt).next (unhide HB)
          obtain ⟨z, hz⟩ : ∃ z, Hid (f k = z) := ⟨_, rfl⟩
          rw [unhide hz] at HP
          obtain ⟨z0, z1, z2, z3⟩ := z
          obtain ⟨s0, o0, rfl, g0, g1, g2, g3⟩ := HP
          dsimp only at g0 g1 g2 g3
          have EI := hide (implLaidOk_any z0 z1 z2 z3)
          have hki : (k : Int) < (n : Int) := by omega
          cases hi : laidOkB ⟨z0, z1, z2, z3⟩ with
          | false =>
            rw [hi] at EI
            have hX := hide (unhide hno (fun h => by have := ((unhide hS).1 h).2.2.2 k hlt; rw [unhide hz, hi] at this; cases this))
            clear hi
            go_wp2_with fail
            go_fit (unhide EI _)
            rintro r u2 ⟨rfl, hb⟩
            replace HB := hide (below_two (unhide HB) (below_two (al1_below _ _) hb))
            go_wp2_with fail
            go_ret
            exact ⟨ret_bool (unhide hX).symm, unhide HB⟩
          | true =>
            rw [hi] at EI
            have HK2 : Hid (∀ j, j < k + 1 → laidOkB (f j) = true) := cols_more (unhide HK) (by rw [unhide hz]; exact hi)
            clear hi
            go_wp2_with fail
            go_fit (unhide EI _)
            rintro r u2 ⟨rfl, hb⟩
            replace HB := hide (below_two (unhide HB) (below_two (al1_below _ _) hb))
            clear hb g0 g1 g2 g3
            go_wp2_with fail
            go_roundw
            case rel => exact ⟨k + 1, by omega, by go_num, HK2, HB⟩
            case measure => simp [intOf]; omega
        · have hke : k = n := by omega
          subst hke
          have hki : ¬ (k : Int) < (k : Int) := by omega
          have hX := hide (unhide hyes ((unhide hS).2 ⟨by trivial, by trivial, unhide hq1, unhide HK⟩))
          go_wp2_with fail
          go_ret
          exact ⟨ret_bool (unhide hX).symm, unhide HB⟩
    · have hX := hide (unhide hno (fun h => hq ((unhide hS).1 h).2.2.1))
      have hqb : ((n : Int) == x * y) = false := beq_eq_false_iff_ne.2 hq
      go_wp2_with fail
      go_ret
      exact ⟨ret_bool (unhide hX).symm, unhide HB⟩

set_option maxHeartbeats 4000000 in
set_option maxRecDepth 100000 in
theorem equalCols_any (G H : Nat → B4) (ao : Option Addr) (n ca : Nat) (bo : Option Addr) (m cb : Nat) (X : Bool) (hX : X = true ↔ n = m ∧ ∀ i, i < n → G i = H i) (hn : n ≤ 1048576) (hm : m ≤ 1048576) (w : World) (PA : ∀ i, i < n → ClAt w ao i (G i)) (PB : ∀ i, i < m → ClAt w bo i (H i)) :
    Calls Try.prog 53 #[.slice ao n ca, .slice bo m cb] w fun r w' => r = .returned (.bool X) ∧ Below w.heap.size w w' := by
  replace hX := hide hX
  replace PA := hide PA
  replace PB := hide PB
  by_cases hnm : n = m
  · subst hnm
    have hX2 : Hid (X = true ↔ ∀ i, i < n → G i = H i) := by unfold Hid; rw [unhide hX]; simp
    clear hX
    go_enter Try.func53, Try.ntmps53
    go_upto_region 4 with fail
    go_loopw [13] (fun i u => ∃ k : Nat, k ≤ n ∧ i = .int .i64 (k : Int) ∧ Hid (∀ j, j < k → G j = H j) ∧ Hid (Below w.heap.size w u)) (fun i _ => n - (intOf i).toNat)
    case atStart => exact ⟨0, Nat.zero_le _, rfl, fun j hj => absurd hj (by omega), Below.refl _ _⟩
    case round =>
      obtain ⟨k, hk, rfl, HK, HB⟩ := hrel
      by_cases hlt : k < n
      · have hki : (k : Int) < (n : Int) := by omega
        obtain ⟨s, o, rfl, g0, g1, g2, g3⟩ := (unhide PA k hlt).next (unhide HB)
        obtain ⟨s', o', rfl, p0, p1, p2, p3⟩ := (unhide PB k hlt).next (unhide HB)
        have hne : Hid (G k = H k ↔ G k = H k) := Iff.rfl
        obtain ⟨r, hr⟩ : ∃ r, Hid (G k = r) := ⟨_, rfl⟩
        obtain ⟨q, hq⟩ : ∃ q, Hid (H k = q) := ⟨_, rfl⟩
        rw [unhide hr] at g0 g1 g2 g3
        rw [unhide hq] at p0 p1 p2 p3
        obtain ⟨r0, r1, r2, r3⟩ := r
        obtain ⟨q0, q1, q2, q3⟩ := q
        dsimp only at g0 g1 g2 g3 p0 p1 p2 p3
        by_cases he : r0 = q0 ∧ r1 = q1 ∧ r2 = q2 ∧ r3 = q3
        · obtain ⟨rfl, rfl, rfl, rfl⟩ := he
          have eq1 : ∀ u, (Op.equalIn 10000 71 (.agg #[.int .i64 r0, .int .i64 r1, .int .i64 r2, .int .i64 r3]) (.agg #[.int .i64 r0, .int .i64 r1, .int .i64 r2, .int .i64 r3])).run Try.prog u = .ok true u := fun u => by rw [eqlColor]; simp
          have HK2 : Hid (∀ j, j < k + 1 → G j = H j) := fun j hj => by
            by_cases e : j = k
            · rw [e, unhide hr, unhide hq]
            · exact unhide HK j (by omega)
          go_upto_region 6 with fail
          go_quiet (fail)
          have HB2 := hide (below_drews (unhide HB) nq)
          go_wp2_with fail
          go_roundw
          case rel => exact ⟨k + 1, by omega, by go_num, HK2, HB2⟩
          case measure => simp [intOf]; omega
        · have hf : (decide (r0 = q0) && (decide (r1 = q1) && (decide (r2 = q2) && decide (r3 = q3)))) = false := by
            rw [Bool.eq_false_iff]; intro h; simp only [Bool.and_eq_true, decide_eq_true_eq] at h; exact he h
          have eq1 : ∀ u, (Op.equalIn 10000 71 (.agg #[.int .i64 r0, .int .i64 r1, .int .i64 r2, .int .i64 r3]) (.agg #[.int .i64 q0, .int .i64 q1, .int .i64 q2, .int .i64 q3])).run Try.prog u = .ok false u := fun u => by rw [eqlColor, hf]
          have hX3 : Hid (false = X) := by
            cases X with
            | false => rfl
            | true =>
              exfalso
              have := (unhide hX2).1 rfl k hlt
              rw [unhide hr, unhide hq] at this
              cases this
              exact he ⟨rfl, rfl, rfl, rfl⟩
          clear hf he
          go_upto_region 6 with fail
          go_quiet (fail)
          have HB2 := hide (below_drews (unhide HB) nq)
          go_wp2_with fail
          go_ret
          exact ⟨ret_bool (unhide hX3), unhide HB2⟩
      · obtain rfl : k = n := by omega
        have hki : ¬ (k : Int) < (k : Int) := by omega
        have hX3 : Hid (true = X) := ((unhide hX2).2 (unhide HK)).symm
        go_wp2_with fail
        go_ret
        exact ⟨ret_bool (unhide hX3), unhide HB⟩
  · have hX3 : Hid (false = X) := by
      cases X with
      | false => rfl
      | true => exact absurd ((unhide hX).1 rfl).1 hnm
    have hnb : ((n : Int) == (m : Int)) = false := beq_eq_false_iff_ne.2 (by omega)
    go_enter Try.func53, Try.ntmps53
    go_wp2_with fail
    go_ret
    exact ⟨ret_bool (unhide hX3), Below.refl _ _⟩

set_option maxHeartbeats 4000000 in
set_option maxRecDepth 100000 in
theorem implSameSurface_any (x y : Int) (f : Nat → B4) (ao : Option Addr) (n ca : Nat) (hn : n ≤ 1048576) (hca : n ≤ ca) (hao : ao = none → ca = 0) (x' y' : Int) (f' : Nat → B4) (bo : Option Addr) (m cb : Nat) (hm : m ≤ 1048576) (hcb : m ≤ cb) (hbo : bo = none → cb = 0) (w : World) (PA : ∀ i, i < n → ClAt w ao i (f i)) (PB : ∀ i, i < m → ClAt w bo i (f' i)) :
    Calls Try.prog 17 #[.agg #[.int .i64 x, .int .i64 y, .slice ao n ca], .agg #[.int .i64 x', .int .i64 y', .slice bo m cb]] w fun r w' => r = .returned (.bool (sameSB x y n f x' y' m f')) ∧ Below w.heap.size w w' := by
  obtain ⟨Z, hZ⟩ : ∃ Z : Bool, Hid (Z = true ↔ n = m ∧ ∀ i, i < n → f i = f' i) := by
    by_cases h : n = m ∧ ∀ i, i < n → f i = f' i
    · exact ⟨true, by unfold Hid; exact ⟨fun _ => h, fun _ => rfl⟩⟩
    · exact ⟨false, by unfold Hid; exact ⟨fun e => (by cases e), fun e => absurd e h⟩⟩
  have EQ := hide (fun u (hu : Below w.heap.size w u) => equalCols_any f f' ao n ca bo m cb Z (unhide hZ) hn hm u (fun i hi => (PA i hi).next hu) (fun i hi => (PB i hi).next hu))
  clear PA PB
  have hyes : Hid (SameS x y n f x' y' m f' → sameSB x y n f x' y' m f' = true) := fun h => sameS_iff.2 h
  have hno : Hid (¬ SameS x y n f x' y' m f' → sameSB x y n f x' y' m f' = false) := fun h => sameS_no h
  generalize sameSB x y n f x' y' m f' = X at hyes hno ⊢
  go_enter Try.func17, Try.ntmps17
  go_upto_region 1 with fail
  have R2 := hide (al2_0 w (.cells #[.int .i64 x, .int .i64 y, .slice ao n ca] 28) (.cells #[.int .i64 x', .int .i64 y', .slice bo m cb] 28))
  have R3 := hide (al2_1 w (.cells #[.int .i64 x, .int .i64 y, .slice ao n ca] 28) (.cells #[.int .i64 x', .int .i64 y', .slice bo m cb] 28))
  have HB := hide (al2_below w (.cells #[.int .i64 x, .int .i64 y, .slice ao n ca] 28) (.cells #[.int .i64 x', .int .i64 y', .slice bo m cb] 28))
  obtain ⟨b3, hb3⟩ : ∃ b, Hid (b = w.heap.size + 1) := ⟨_, rfl⟩
  obtain ⟨b2, hb2⟩ : ∃ b, Hid (b = w.heap.size) := ⟨_, rfl⟩
  rw [← unhide hb3] at R3
  rw [← unhide hb2] at R2
  rw [← unhide hb3, ← unhide hb2]
  generalize (w.alloc (.cells #[.int .i64 x, .int .i64 y, .slice ao n ca] 28)).alloc (.cells #[.int .i64 x', .int .i64 y', .slice bo m cb] 28) = W at R2 R3 HB ⊢
  clear hb3 hb2
  obtain ⟨r0, r1, r2⟩ := row3 (unhide R2)
  obtain ⟨s0, s1, s2⟩ := row3 (unhide R3)
  by_cases hx : x = x'
  · by_cases hy : y = y'
    · subst hx hy
      have EQ0 := hide (unhide EQ _ (unhide HB))
      go_wp2_with fail
      go_fit (unhide EQ0)
      rintro r u ⟨rfl, hb⟩
      replace HB := hide (below_two (unhide HB) hb)
      have hX : Hid (Z = X) := by
        unfold Hid
        cases Z with
        | true => exact (unhide hyes ⟨rfl, rfl, ((unhide hZ).1 rfl).1, ((unhide hZ).1 rfl).2⟩).symm
        | false => exact (unhide hno (fun h => by have := (unhide hZ).2 ⟨h.2.2.1, h.2.2.2⟩; cases this)).symm
      clear hyes hno hZ EQ EQ0 hb r0 r1 r2 s0 s1 s2
      go_wp2_with fail
      go_ret
      exact ⟨ret_bool (unhide hX), unhide HB⟩
    · have hX := hide (unhide hno (fun h => hy h.2.1))
      have hyb : (y == y') = false := beq_eq_false_iff_ne.2 hy
      subst hx
      go_wp2_with fail
      go_ret
      exact ⟨ret_bool (unhide hX).symm, unhide HB⟩
  · have hX := hide (unhide hno (fun h => hx h.1))
    have hxb : (x == x') = false := beq_eq_false_iff_ne.2 hx
    go_wp2_with fail
    go_ret
    exact ⟨ret_bool (unhide hX).symm, unhide HB⟩

end Go.Proofs.Ytmomgbnhildpdab

/-
  The program's five ways to blend one part, by method expressions in a table. (By blendi.py.)
-/
namespace Go.Proofs.Ytmomgbnhildpdab
open Go.RowKit
set_option linter.unusedVariables false

set_option maxHeartbeats 4000000 in
set_option maxRecDepth 100000 in
theorem implMeet_out (s d sa da : Int) (hs : 0 ≤ s ∧ s ≤ 255) (hd : 0 ≤ d ∧ d ≤ 255) (hsa : 0 ≤ sa ∧ sa ≤ 255) (hda : 0 ≤ da ∧ da ≤ 255) (w : World) :
    Calls Try.prog 125 #[.agg #[.int .i64 s, .int .i64 sa, .int .i64 d, .int .i64 da]] w fun e w' => e = .returned (.int .i64 (outI 5 s d sa da)) ∧ Below w.heap.size w w' := by
  have hO : Hid (outI 5 s d sa da = t255I d (255 - sa)) := rfl
  have E := hide (implTimes255_any d (255 - sa))
  have v0 : IntKind.i64.wrap (255 - sa) = 255 - sa := IntWalk.i64_in _ (by omega)
  rw [unhide hO]
  generalize t255I d (255 - sa) = V at E ⊢
  clear hs hd hsa hda hO
  go_enter Try.func125, Try.ntmps125
  go_upto_region 1 with fail
  have R1 := hide (new_row w (.cells #[.int .i64 s, .int .i64 sa, .int .i64 d, .int .i64 da] 120))
  have HB := hide (al1_below w (.cells #[.int .i64 s, .int .i64 sa, .int .i64 d, .int .i64 da] 120))
  obtain ⟨b1, hb1⟩ : ∃ b, Hid (b = w.heap.size) := ⟨_, rfl⟩
  rw [← unhide hb1] at R1
  rw [← unhide hb1]
  generalize w.alloc (.cells #[.int .i64 s, .int .i64 sa, .int .i64 d, .int .i64 da] 120) = W at R1 HB ⊢
  clear hb1
  obtain ⟨q0, q1, q2, q3⟩ := row4 (unhide R1)
  go_wp2_with fail
  go_fit (unhide E _)
  rintro e w1 ⟨rfl, hb⟩
  go_wp2_with fail
  go_ret
  exact ⟨rfl, below_two (unhide HB) hb⟩

set_option maxHeartbeats 4000000 in
set_option maxRecDepth 100000 in
theorem implMeet_plus (s d sa da : Int) (hs : 0 ≤ s ∧ s ≤ 255) (hd : 0 ≤ d ∧ d ≤ 255) (hsa : 0 ≤ sa ∧ sa ≤ 255) (hda : 0 ≤ da ∧ da ≤ 255) (w : World) :
    Calls Try.prog 124 #[.agg #[.int .i64 s, .int .i64 sa, .int .i64 d, .int .i64 da]] w fun e w' => e = .returned (.int .i64 (outI 4 s d sa da)) ∧ Below w.heap.size w w' := by
  have hO : Hid (outI 4 s d sa da = s + d) := rfl
  have v0 : IntKind.i64.wrap (s + d) = s + d := IntWalk.i64_in _ (by omega)
  rw [unhide hO]
  clear hs hd hsa hda hO
  go_enter Try.func124, Try.ntmps124
  go_upto_region 1 with fail
  have R1 := hide (new_row w (.cells #[.int .i64 s, .int .i64 sa, .int .i64 d, .int .i64 da] 120))
  have HB := hide (al1_below w (.cells #[.int .i64 s, .int .i64 sa, .int .i64 d, .int .i64 da] 120))
  obtain ⟨b1, hb1⟩ : ∃ b, Hid (b = w.heap.size) := ⟨_, rfl⟩
  rw [← unhide hb1] at R1
  rw [← unhide hb1]
  generalize w.alloc (.cells #[.int .i64 s, .int .i64 sa, .int .i64 d, .int .i64 da] 120) = W at R1 HB ⊢
  clear hb1
  obtain ⟨q0, q1, q2, q3⟩ := row4 (unhide R1)
  go_wp2_with fail
  go_ret
  exact ⟨rfl, unhide HB⟩

set_option maxHeartbeats 4000000 in
set_option maxRecDepth 100000 in
theorem implMeet_over (s d sa da : Int) (hs : 0 ≤ s ∧ s ≤ 255) (hd : 0 ≤ d ∧ d ≤ 255) (hsa : 0 ≤ sa ∧ sa ≤ 255) (hda : 0 ≤ da ∧ da ≤ 255) (w : World) :
    Calls Try.prog 121 #[.agg #[.int .i64 s, .int .i64 sa, .int .i64 d, .int .i64 da]] w fun e w' => e = .returned (.int .i64 (outI 1 s d sa da)) ∧ Below w.heap.size w w' := by
  have hO : Hid (outI 1 s d sa da = s + t255I d (255 - sa)) := rfl
  have E := hide (implMeet_out s d sa da hs hd hsa hda)
  have hb5 : 0 ≤ t255I d (255 - sa) ∧ t255I d (255 - sa) ≤ 255 := by
    have h1 := t255_mono (a := d) (c := d) (b := 255 - sa) hd.1 (Int.le_refl _) hd.2 (by omega)
    have h2 := t255_le (a := d) (b := 255 - sa) hd (by omega)
    omega
  rw [show outI 5 s d sa da = t255I d (255 - sa) from rfl] at E
  rw [unhide hO]
  generalize t255I d (255 - sa) = V at E hb5 ⊢
  have v0 : IntKind.i64.wrap (s + V) = s + V := IntWalk.i64_in _ (by omega)
  clear hs hd hsa hda hO hb5
  go_enter Try.func121, Try.ntmps121
  go_upto_region 1 with fail
  have R1 := hide (new_row w (.cells #[.int .i64 s, .int .i64 sa, .int .i64 d, .int .i64 da] 120))
  have HB := hide (al1_below w (.cells #[.int .i64 s, .int .i64 sa, .int .i64 d, .int .i64 da] 120))
  obtain ⟨b1, hb1⟩ : ∃ b, Hid (b = w.heap.size) := ⟨_, rfl⟩
  rw [← unhide hb1] at R1
  rw [← unhide hb1]
  generalize w.alloc (.cells #[.int .i64 s, .int .i64 sa, .int .i64 d, .int .i64 da] 120) = W at R1 HB ⊢
  clear hb1
  obtain ⟨q0, q1, q2, q3⟩ := row4 (unhide R1)
  have HN := hide ((Below.refl W.heap.size W).drew)
  have k0 := hide (show ∀ u, Below W.heap.size W u → (u.cell? ⟨b1, 0, none⟩ = some (.int .i64 s) ∧ u.cell? ⟨b1, 1, none⟩ = some (.int .i64 sa) ∧ u.cell? ⟨b1, 2, none⟩ = some (.int .i64 d) ∧ u.cell? ⟨b1, 3, none⟩ = some (.int .i64 da) ∧ Below W.heap.size W u) from fun u h => by
    obtain ⟨c0, c1, c2, c3⟩ := row4 (row_next h (unhide R1))
    exact ⟨c0, c1, c2, c3, h⟩)
  have k00 := hide (unhide k0 _ (unhide HN))
  clear q0 q1 q2 q3
  go_region_held3 (fun u => u.cell? ⟨b1, 0, none⟩ = some (.int .i64 s) ∧ u.cell? ⟨b1, 1, none⟩ = some (.int .i64 sa) ∧ u.cell? ⟨b1, 2, none⟩ = some (.int .i64 d) ∧ u.cell? ⟨b1, 3, none⟩ = some (.int .i64 da) ∧ Below W.heap.size W u) (first | with_reducible exact unhide k00 | with_reducible exact unhide k0 _ (by assumption)) (first | (go_at_call 125; go_fit (unhide E _); rintro e w4 ⟨rfl, hb4⟩; have h4 := below_undrew hb4; clear hb4))
  all_goals
    go_wp2_with fail
    go_ret
    exact ⟨rfl, below_two (unhide HB) h4⟩

set_option maxHeartbeats 4000000 in
set_option maxRecDepth 100000 in
theorem implMeet_multiply (s d sa da : Int) (hs : 0 ≤ s ∧ s ≤ 255) (hd : 0 ≤ d ∧ d ≤ 255) (hsa : 0 ≤ sa ∧ sa ≤ 255) (hda : 0 ≤ da ∧ da ≤ 255) (w : World) :
    Calls Try.prog 122 #[.agg #[.int .i64 s, .int .i64 sa, .int .i64 d, .int .i64 da]] w fun e w' => e = .returned (.int .i64 (outI 2 s d sa da)) ∧ Below w.heap.size w w' := by
  have m1 := prod255 hs hd
  have m2 := prod255 (x := s) (y := 255 - da) hs (by omega)
  have m3 := prod255 (x := d) (y := 255 - sa) hd (by omega)
  have hO : Hid (outI 2 s d sa da = rdivI (s * d + (s * (255 - da) + d * (255 - sa))) 255) := by unfold Hid; rw [← Int.add_assoc]; rfl
  have w1' : IntKind.i64.wrap (255 - da) = 255 - da := IntWalk.i64_in _ (by omega)
  have w2' : IntKind.i64.wrap (255 - sa) = 255 - sa := IntWalk.i64_in _ (by omega)
  have w3' : IntKind.i64.wrap (s * d) = s * d := IntWalk.i64_in _ (by omega)
  have w4' : IntKind.i64.wrap (s * (255 - da)) = s * (255 - da) := IntWalk.i64_in _ (by omega)
  have w5' : IntKind.i64.wrap (d * (255 - sa)) = d * (255 - sa) := IntWalk.i64_in _ (by omega)
  have w6' : IntKind.i64.wrap (s * (255 - da) + d * (255 - sa)) = s * (255 - da) + d * (255 - sa) := IntWalk.i64_in _ (by omega)
  have w7' : IntKind.i64.wrap (s * d + (s * (255 - da) + d * (255 - sa))) = s * d + (s * (255 - da) + d * (255 - sa)) := IntWalk.i64_in _ (by omega)
  have E := hide (implRoundDiv_any (s * d + (s * (255 - da) + d * (255 - sa))) 255 (by omega) (by omega) (by omega))
  rw [unhide hO]
  generalize rdivI (s * d + (s * (255 - da) + d * (255 - sa))) 255 = V at E ⊢
  clear hs hd hsa hda hO m1 m2 m3
  go_enter Try.func122, Try.ntmps122
  go_upto_region 1 with fail
  have R1 := hide (new_row w (.cells #[.int .i64 s, .int .i64 sa, .int .i64 d, .int .i64 da] 120))
  have HB := hide (al1_below w (.cells #[.int .i64 s, .int .i64 sa, .int .i64 d, .int .i64 da] 120))
  obtain ⟨b1, hb1⟩ : ∃ b, Hid (b = w.heap.size) := ⟨_, rfl⟩
  rw [← unhide hb1] at R1
  rw [← unhide hb1]
  generalize w.alloc (.cells #[.int .i64 s, .int .i64 sa, .int .i64 d, .int .i64 da] 120) = W at R1 HB ⊢
  clear hb1
  obtain ⟨q0, q1, q2, q3⟩ := row4 (unhide R1)
  go_wp2_with fail
  go_fit (unhide E _)
  rintro e w1 ⟨rfl, hb⟩
  go_wp2_with fail
  go_ret
  exact ⟨rfl, below_two (unhide HB) hb⟩

set_option maxHeartbeats 4000000 in
set_option maxRecDepth 100000 in
theorem implMeet_screen (s d sa da : Int) (hs : 0 ≤ s ∧ s ≤ 255) (hd : 0 ≤ d ∧ d ≤ 255) (hsa : 0 ≤ sa ∧ sa ≤ 255) (hda : 0 ≤ da ∧ da ≤ 255) (w : World) :
    Calls Try.prog 123 #[.agg #[.int .i64 s, .int .i64 sa, .int .i64 d, .int .i64 da]] w fun e w' => e = .returned (.int .i64 (outI 3 s d sa da)) ∧ Below w.heap.size w w' := by
  have hO : Hid (outI 3 s d sa da = s + d - t255I s d) := by unfold Hid; rw [t255_is hs hd]; rfl
  have E := hide (implTimes255_any s d)
  have hb5 : 0 ≤ t255I s d ∧ t255I s d ≤ 255 := by
    have h1 := t255_mono (a := s) (c := s) (b := d) hs.1 (Int.le_refl _) hs.2 hd
    have h2 := t255_le (a := s) (b := d) hs hd
    omega
  rw [unhide hO]
  generalize t255I s d = V at E hb5 ⊢
  have v0 : IntKind.i64.wrap (s + d) = s + d := IntWalk.i64_in _ (by omega)
  have v1 : IntKind.i64.wrap (s + d - V) = s + d - V := IntWalk.i64_in _ (by omega)
  clear hs hd hsa hda hO hb5
  go_enter Try.func123, Try.ntmps123
  go_upto_region 1 with fail
  have R1 := hide (new_row w (.cells #[.int .i64 s, .int .i64 sa, .int .i64 d, .int .i64 da] 120))
  have HB := hide (al1_below w (.cells #[.int .i64 s, .int .i64 sa, .int .i64 d, .int .i64 da] 120))
  obtain ⟨b1, hb1⟩ : ∃ b, Hid (b = w.heap.size) := ⟨_, rfl⟩
  rw [← unhide hb1] at R1
  rw [← unhide hb1]
  generalize w.alloc (.cells #[.int .i64 s, .int .i64 sa, .int .i64 d, .int .i64 da] 120) = W at R1 HB ⊢
  clear hb1
  obtain ⟨q0, q1, q2, q3⟩ := row4 (unhide R1)
  have HN := hide ((Below.refl W.heap.size W).drew)
  have k0 := hide (show ∀ u, Below W.heap.size W u → (u.cell? ⟨b1, 0, none⟩ = some (.int .i64 s) ∧ u.cell? ⟨b1, 1, none⟩ = some (.int .i64 sa) ∧ u.cell? ⟨b1, 2, none⟩ = some (.int .i64 d) ∧ u.cell? ⟨b1, 3, none⟩ = some (.int .i64 da) ∧ Below W.heap.size W u) from fun u h => by
    obtain ⟨c0, c1, c2, c3⟩ := row4 (row_next h (unhide R1))
    exact ⟨c0, c1, c2, c3, h⟩)
  have k00 := hide (unhide k0 _ (unhide HN))
  clear q0 q1 q2 q3
  go_region_held3 (fun u => u.cell? ⟨b1, 0, none⟩ = some (.int .i64 s) ∧ u.cell? ⟨b1, 1, none⟩ = some (.int .i64 sa) ∧ u.cell? ⟨b1, 2, none⟩ = some (.int .i64 d) ∧ u.cell? ⟨b1, 3, none⟩ = some (.int .i64 da) ∧ Below W.heap.size W u) (first | with_reducible exact unhide k00 | with_reducible exact unhide k0 _ (by assumption)) (first | (go_at_call 100; go_fit (unhide E _); rintro e w4 ⟨rfl, hb4⟩; have h4 := below_undrew hb4; clear hb4))
  all_goals
    go_wp2_with fail
    go_ret
    exact ⟨rfl, below_two (unhide HB) h4⟩

set_option maxHeartbeats 8000000 in
set_option maxRecDepth 100000 in
theorem implEachPart_blend (p ps pd : Nat) (r g b a r2 g2 b2' a2 m0 m1 m2 m3 : Int) (J : World → Prop) (jn : ∀ u u', J u → Below u.heap.size u u' → J u')
    (K0 : ∀ u, J u → Calls Try.prog 96 #[.int .i64 r, .int .i64 r2, .pointer (some ⟨p, 0, none⟩), .pointer (some ⟨ps, 0, none⟩), .pointer (some ⟨pd, 0, none⟩)] u fun e u' => e = .returned (.int .i64 m0) ∧ Below u.heap.size u u')
    (K1 : ∀ u, J u → Calls Try.prog 96 #[.int .i64 g, .int .i64 g2, .pointer (some ⟨p, 0, none⟩), .pointer (some ⟨ps, 0, none⟩), .pointer (some ⟨pd, 0, none⟩)] u fun e u' => e = .returned (.int .i64 m1) ∧ Below u.heap.size u u')
    (K2 : ∀ u, J u → Calls Try.prog 96 #[.int .i64 b, .int .i64 b2', .pointer (some ⟨p, 0, none⟩), .pointer (some ⟨ps, 0, none⟩), .pointer (some ⟨pd, 0, none⟩)] u fun e u' => e = .returned (.int .i64 m2) ∧ Below u.heap.size u u')
    (K3 : ∀ u, J u → Calls Try.prog 96 #[.int .i64 a, .int .i64 a2, .pointer (some ⟨p, 0, none⟩), .pointer (some ⟨ps, 0, none⟩), .pointer (some ⟨pd, 0, none⟩)] u fun e u' => e = .returned (.int .i64 m3) ∧ Below u.heap.size u u')
    (w : World) (h : J w) :
    Calls Try.prog 95 #[.agg #[.int .i64 r, .int .i64 g, .int .i64 b, .int .i64 a], .agg #[.int .i64 r2, .int .i64 g2, .int .i64 b2', .int .i64 a2], .func (.func 96) #[] #[.pointer (some ⟨p, 0, none⟩), .pointer (some ⟨ps, 0, none⟩), .pointer (some ⟨pd, 0, none⟩)]] w fun e w' => e = .returned (.agg #[.int .i64 m0, .int .i64 m1, .int .i64 m2, .int .i64 m3]) ∧ Below w.heap.size w w' := by
  replace K0 := hide K0
  replace K1 := hide K1
  replace K2 := hide K2
  replace K3 := hide K3
  go_enter Try.func95, Try.ntmps95
  go_upto_region 1 with fail
  have R1 := hide (al3_0 w (.cells #[.int .i64 r, .int .i64 g, .int .i64 b, .int .i64 a] 71) (.cells #[.int .i64 r2, .int .i64 g2, .int .i64 b2', .int .i64 a2] 71) (.cells #[.int .i64 0, .int .i64 0, .int .i64 0, .int .i64 0] 71))
  have R2 := hide (al3_1 w (.cells #[.int .i64 r, .int .i64 g, .int .i64 b, .int .i64 a] 71) (.cells #[.int .i64 r2, .int .i64 g2, .int .i64 b2', .int .i64 a2] 71) (.cells #[.int .i64 0, .int .i64 0, .int .i64 0, .int .i64 0] 71))
  have R3 := hide (al3_2 w (.cells #[.int .i64 r, .int .i64 g, .int .i64 b, .int .i64 a] 71) (.cells #[.int .i64 r2, .int .i64 g2, .int .i64 b2', .int .i64 a2] 71) (.cells #[.int .i64 0, .int .i64 0, .int .i64 0, .int .i64 0] 71))
  have HB := hide (al3_below w (.cells #[.int .i64 r, .int .i64 g, .int .i64 b, .int .i64 a] 71) (.cells #[.int .i64 r2, .int .i64 g2, .int .i64 b2', .int .i64 a2] 71) (.cells #[.int .i64 0, .int .i64 0, .int .i64 0, .int .i64 0] 71))
  have cq := jn _ _ h (unhide HB)
  obtain ⟨b3, hb3⟩ : ∃ b, Hid (b = w.heap.size + 1 + 1) := ⟨_, rfl⟩
  obtain ⟨b2, hb2⟩ : ∃ b, Hid (b = w.heap.size + 1) := ⟨_, rfl⟩
  obtain ⟨b1, hb1⟩ : ∃ b, Hid (b = w.heap.size) := ⟨_, rfl⟩
  have lz : Hid (w.heap.size ≤ b3 ∧ b1 < b3 ∧ b2 < b3) := by unfold Hid; rw [unhide hb3, unhide hb2, unhide hb1]; omega
  rw [← unhide hb3] at R3
  rw [← unhide hb2] at R2
  rw [← unhide hb1] at R1
  rw [← unhide hb3, ← unhide hb2, ← unhide hb1]
  generalize ((w.alloc (.cells #[.int .i64 r, .int .i64 g, .int .i64 b, .int .i64 a] 71)).alloc (.cells #[.int .i64 r2, .int .i64 g2, .int .i64 b2', .int .i64 a2] 71)).alloc (.cells #[.int .i64 0, .int .i64 0, .int .i64 0, .int .i64 0] 71) = W at R1 R2 R3 HB cq ⊢
  clear hb3 hb2 hb1 h
  have ne1 : ¬ b3 = b1 := by have := unhide lz; omega
  have ne2 : ¬ b1 = b3 := by have := unhide lz; omega
  have ne3 : ¬ b3 = b2 := by have := unhide lz; omega
  have ne4 : ¬ b2 = b3 := by have := unhide lz; omega
  have l6 := hide (show b3 ≤ W.heap.size from Nat.le_of_lt (heap_lt (unhide R3)))
  have cq0 := hide (jn _ _ cq (Below.refl W.heap.size W).drew)
  replace cq := hide cq
  have k0 := hide (show ∀ u, Below b3 W u → (u.cell? ⟨b1, 0, none⟩ = some (.int .i64 r) ∧ u.cell? ⟨b1, 1, none⟩ = some (.int .i64 g) ∧ u.cell? ⟨b1, 2, none⟩ = some (.int .i64 b) ∧ u.cell? ⟨b1, 3, none⟩ = some (.int .i64 a) ∧ u.cell? ⟨b2, 0, none⟩ = some (.int .i64 r2) ∧ u.cell? ⟨b2, 1, none⟩ = some (.int .i64 g2) ∧ u.cell? ⟨b2, 2, none⟩ = some (.int .i64 b2') ∧ u.cell? ⟨b2, 3, none⟩ = some (.int .i64 a2) ∧ Below b3 W u) from fun u h => by
    obtain ⟨c0, c1, c2, c3⟩ := row4 ((h.block b1 (unhide lz).2.1).trans (unhide R1))
    obtain ⟨d0, d1, d2, d3⟩ := row4 ((h.block b2 (unhide lz).2.2).trans (unhide R2))
    exact ⟨c0, c1, c2, c3, d0, d1, d2, d3, h⟩)
  have k1 := hide (show ∀ u, Below W.heap.size W u → (u.cell? ⟨b3, 0, none⟩ = some (.int .i64 0) ∧ u.cell? ⟨b3, 1, none⟩ = some (.int .i64 0) ∧ u.cell? ⟨b3, 2, none⟩ = some (.int .i64 0) ∧ u.cell? ⟨b3, 3, none⟩ = some (.int .i64 0) ∧ u.frozen? ⟨b3, 0, none⟩ = false ∧ u.frozen? ⟨b3, 1, none⟩ = false ∧ u.frozen? ⟨b3, 2, none⟩ = false ∧ u.frozen? ⟨b3, 3, none⟩ = false) from fun u h => by
    obtain ⟨e0, e1, e2, e3⟩ := row4 (row_next h (unhide R3))
    obtain ⟨f0, f1, f2, f3⟩ := free4 (row_next h (unhide R3))
    exact ⟨e0, e1, e2, e3, f0, f1, f2, f3⟩)
  have k00 := hide (unhide k0 _ (Below.refl _ _).drew)
  replace jn := hide jn
  go_region_held3 (fun u => u.cell? ⟨b1, 0, none⟩ = some (.int .i64 r) ∧ u.cell? ⟨b1, 1, none⟩ = some (.int .i64 g) ∧ u.cell? ⟨b1, 2, none⟩ = some (.int .i64 b) ∧ u.cell? ⟨b1, 3, none⟩ = some (.int .i64 a) ∧ u.cell? ⟨b2, 0, none⟩ = some (.int .i64 r2) ∧ u.cell? ⟨b2, 1, none⟩ = some (.int .i64 g2) ∧ u.cell? ⟨b2, 2, none⟩ = some (.int .i64 b2') ∧ u.cell? ⟨b2, 3, none⟩ = some (.int .i64 a2) ∧ Below b3 W u) ((first | with_reducible exact unhide k00 | (with_reducible refine unhide k0 _ ?_; first | with_reducible exact Below.mono (by assumption) (unhide l6) | (with_reducible refine below_put4 ?_ (Nat.le_refl _) _ _ _ _; with_reducible exact Below.mono (by assumption) (unhide l6))))) (first | (go_at_call 96; go_fit (unhide K0 _ (unhide cq0)); rintro e w4 ⟨rfl, hb1⟩; have h1 := below_undrew hb1; have cq1 := hide (unhide jn _ _ (unhide cq) h1); clear hb1) | (go_at_call 96; go_fit (unhide K1 _ (unhide cq1)); rintro e w5 ⟨rfl, hb2⟩; have h2 := below_two h1 hb2; clear h1 cq1; have cq2 := hide (unhide jn _ _ (unhide cq) h2); clear hb2) | (go_at_call 96; go_fit (unhide K2 _ (unhide cq2)); rintro e w6 ⟨rfl, hb3⟩; have h3 := below_two h2 hb3; clear h2 cq2; have cq3 := hide (unhide jn _ _ (unhide cq) h3); clear hb3) | (go_at_call 96; go_fit (unhide K3 _ (unhide cq3)); rintro e w7 ⟨rfl, hb4⟩; have h4 := below_two h3 hb4; clear h3 cq3; clear hb4; obtain ⟨e0, e1, e2, e3, f0, f1, f2, f3⟩ := unhide k1 _ h4))
  all_goals
    go_wp2_with fail
    refine bodyPost_ret (v := .agg #[.int .i64 m0, .int .i64 m1, .int .i64 m2, .int .i64 m3]) (by simp [results, Try.results95, go_sem, e0, e1, e2, e3]) rfl ⟨rfl, ?_⟩
    exact below_put4 (below_two (unhide HB) h4) (unhide lz).1 _ _ _ _

structure MixAt (w : World) (p ps pd : Nat) (f : Value) (r g b a r2 g2 b2' a2 : Int) : Prop where
  f : w.cell? ⟨p, 0, none⟩ = some f
  s : w.heap[ps]? = some (.cells #[.int .i64 r, .int .i64 g, .int .i64 b, .int .i64 a] 71 (0, 0))
  d : w.heap[pd]? = some (.cells #[.int .i64 r2, .int .i64 g2, .int .i64 b2', .int .i64 a2] 71 (0, 0))
theorem MixAt.next {w w1 : World} {p ps pd : Nat} {f : Value} {r g b a r2 g2 b2' a2 : Int} (h : MixAt w p ps pd f r g b a r2 g2 b2' a2) (hb : Below w.heap.size w w1) : MixAt w1 p ps pd f r g b a r2 g2 b2' a2 :=
  ⟨kc hb h.f, row_next hb h.s, row_next hb h.d⟩
theorem min_cap (x : Int) : min x 255 = capI x := by unfold capI; rw [Int.min_def]; split <;> split <;> omega

set_option maxHeartbeats 4000000 in
set_option maxRecDepth 100000 in
theorem implMix_over (p ps pd : Nat) (x y r g b a r2 g2 b2' a2 : Int) (hs : 0 ≤ x ∧ x ≤ 255) (hd : 0 ≤ y ∧ y ≤ 255) (hsa : 0 ≤ a ∧ a ≤ 255) (hda : 0 ≤ a2 ∧ a2 ≤ 255) (w : World) (h : MixAt w p ps pd (.func (.func 121) #[] #[]) r g b a r2 g2 b2' a2) :
    Calls Try.prog 96 #[.int .i64 x, .int .i64 y, .pointer (some ⟨p, 0, none⟩), .pointer (some ⟨ps, 0, none⟩), .pointer (some ⟨pd, 0, none⟩)] w fun e w' => e = .returned (.int .i64 (blendI 1 x y a a2)) ∧ Below w.heap.size w w' := by
  have E := hide (implMeet_over x y a a2 hs hd hsa hda)
  have hO : Hid (blendI 1 x y a a2 = min (outI 1 x y a a2) 255) := (min_cap _).symm
  generalize outI 1 x y a a2 = V at E hO
  rw [unhide hO]
  clear hs hd hsa hda hO
  obtain ⟨c, h1, h2⟩ := h
  obtain ⟨q0, q1, q2, q3⟩ := row4 h1
  obtain ⟨d0, d1, d2, d3⟩ := row4 h2
  clear h1 h2
  go_enter Try.func96, Try.ntmps96
  go_wp2_with fail
  go_fit (unhide E _)
  rintro e w1 ⟨rfl, hb⟩
  go_wp2_with fail
  go_ret
  exact ⟨rfl, hb⟩

theorem implBlendOf_over (w : World) :
    Calls Try.prog 94 #[.int .i64 1] w fun e w' => e = .returned (.tuple #[.func (.func 121) #[] #[], .bool true]) ∧ Below w.heap.size w w' := by
  go_enter Try.func94, Try.ntmps94
  go_wp2_with fail
  exact bodyPost_ret (v := .tuple #[.func (.func 121) #[] #[], .bool true]) (by simp [results, Try.results94, go_sem]) rfl ⟨rfl, al1_below _ _⟩

set_option maxHeartbeats 4000000 in
set_option maxRecDepth 100000 in
theorem implMix_multiply (p ps pd : Nat) (x y r g b a r2 g2 b2' a2 : Int) (hs : 0 ≤ x ∧ x ≤ 255) (hd : 0 ≤ y ∧ y ≤ 255) (hsa : 0 ≤ a ∧ a ≤ 255) (hda : 0 ≤ a2 ∧ a2 ≤ 255) (w : World) (h : MixAt w p ps pd (.func (.func 122) #[] #[]) r g b a r2 g2 b2' a2) :
    Calls Try.prog 96 #[.int .i64 x, .int .i64 y, .pointer (some ⟨p, 0, none⟩), .pointer (some ⟨ps, 0, none⟩), .pointer (some ⟨pd, 0, none⟩)] w fun e w' => e = .returned (.int .i64 (blendI 2 x y a a2)) ∧ Below w.heap.size w w' := by
  have E := hide (implMeet_multiply x y a a2 hs hd hsa hda)
  have hO : Hid (blendI 2 x y a a2 = min (outI 2 x y a a2) 255) := (min_cap _).symm
  generalize outI 2 x y a a2 = V at E hO
  rw [unhide hO]
  clear hs hd hsa hda hO
  obtain ⟨c, h1, h2⟩ := h
  obtain ⟨q0, q1, q2, q3⟩ := row4 h1
  obtain ⟨d0, d1, d2, d3⟩ := row4 h2
  clear h1 h2
  go_enter Try.func96, Try.ntmps96
  go_wp2_with fail
  go_fit (unhide E _)
  rintro e w1 ⟨rfl, hb⟩
  go_wp2_with fail
  go_ret
  exact ⟨rfl, hb⟩

theorem implBlendOf_multiply (w : World) :
    Calls Try.prog 94 #[.int .i64 2] w fun e w' => e = .returned (.tuple #[.func (.func 122) #[] #[], .bool true]) ∧ Below w.heap.size w w' := by
  go_enter Try.func94, Try.ntmps94
  go_wp2_with fail
  exact bodyPost_ret (v := .tuple #[.func (.func 122) #[] #[], .bool true]) (by simp [results, Try.results94, go_sem]) rfl ⟨rfl, al1_below _ _⟩

set_option maxHeartbeats 4000000 in
set_option maxRecDepth 100000 in
theorem implMix_screen (p ps pd : Nat) (x y r g b a r2 g2 b2' a2 : Int) (hs : 0 ≤ x ∧ x ≤ 255) (hd : 0 ≤ y ∧ y ≤ 255) (hsa : 0 ≤ a ∧ a ≤ 255) (hda : 0 ≤ a2 ∧ a2 ≤ 255) (w : World) (h : MixAt w p ps pd (.func (.func 123) #[] #[]) r g b a r2 g2 b2' a2) :
    Calls Try.prog 96 #[.int .i64 x, .int .i64 y, .pointer (some ⟨p, 0, none⟩), .pointer (some ⟨ps, 0, none⟩), .pointer (some ⟨pd, 0, none⟩)] w fun e w' => e = .returned (.int .i64 (blendI 3 x y a a2)) ∧ Below w.heap.size w w' := by
  have E := hide (implMeet_screen x y a a2 hs hd hsa hda)
  have hO : Hid (blendI 3 x y a a2 = min (outI 3 x y a a2) 255) := (min_cap _).symm
  generalize outI 3 x y a a2 = V at E hO
  rw [unhide hO]
  clear hs hd hsa hda hO
  obtain ⟨c, h1, h2⟩ := h
  obtain ⟨q0, q1, q2, q3⟩ := row4 h1
  obtain ⟨d0, d1, d2, d3⟩ := row4 h2
  clear h1 h2
  go_enter Try.func96, Try.ntmps96
  go_wp2_with fail
  go_fit (unhide E _)
  rintro e w1 ⟨rfl, hb⟩
  go_wp2_with fail
  go_ret
  exact ⟨rfl, hb⟩

theorem implBlendOf_screen (w : World) :
    Calls Try.prog 94 #[.int .i64 3] w fun e w' => e = .returned (.tuple #[.func (.func 123) #[] #[], .bool true]) ∧ Below w.heap.size w w' := by
  go_enter Try.func94, Try.ntmps94
  go_wp2_with fail
  exact bodyPost_ret (v := .tuple #[.func (.func 123) #[] #[], .bool true]) (by simp [results, Try.results94, go_sem]) rfl ⟨rfl, al1_below _ _⟩

set_option maxHeartbeats 4000000 in
set_option maxRecDepth 100000 in
theorem implMix_plus (p ps pd : Nat) (x y r g b a r2 g2 b2' a2 : Int) (hs : 0 ≤ x ∧ x ≤ 255) (hd : 0 ≤ y ∧ y ≤ 255) (hsa : 0 ≤ a ∧ a ≤ 255) (hda : 0 ≤ a2 ∧ a2 ≤ 255) (w : World) (h : MixAt w p ps pd (.func (.func 124) #[] #[]) r g b a r2 g2 b2' a2) :
    Calls Try.prog 96 #[.int .i64 x, .int .i64 y, .pointer (some ⟨p, 0, none⟩), .pointer (some ⟨ps, 0, none⟩), .pointer (some ⟨pd, 0, none⟩)] w fun e w' => e = .returned (.int .i64 (blendI 4 x y a a2)) ∧ Below w.heap.size w w' := by
  have E := hide (implMeet_plus x y a a2 hs hd hsa hda)
  have hO : Hid (blendI 4 x y a a2 = min (outI 4 x y a a2) 255) := (min_cap _).symm
  generalize outI 4 x y a a2 = V at E hO
  rw [unhide hO]
  clear hs hd hsa hda hO
  obtain ⟨c, h1, h2⟩ := h
  obtain ⟨q0, q1, q2, q3⟩ := row4 h1
  obtain ⟨d0, d1, d2, d3⟩ := row4 h2
  clear h1 h2
  go_enter Try.func96, Try.ntmps96
  go_wp2_with fail
  go_fit (unhide E _)
  rintro e w1 ⟨rfl, hb⟩
  go_wp2_with fail
  go_ret
  exact ⟨rfl, hb⟩

theorem implBlendOf_plus (w : World) :
    Calls Try.prog 94 #[.int .i64 4] w fun e w' => e = .returned (.tuple #[.func (.func 124) #[] #[], .bool true]) ∧ Below w.heap.size w w' := by
  go_enter Try.func94, Try.ntmps94
  go_wp2_with fail
  exact bodyPost_ret (v := .tuple #[.func (.func 124) #[] #[], .bool true]) (by simp [results, Try.results94, go_sem]) rfl ⟨rfl, al1_below _ _⟩

set_option maxHeartbeats 4000000 in
set_option maxRecDepth 100000 in
theorem implMix_out (p ps pd : Nat) (x y r g b a r2 g2 b2' a2 : Int) (hs : 0 ≤ x ∧ x ≤ 255) (hd : 0 ≤ y ∧ y ≤ 255) (hsa : 0 ≤ a ∧ a ≤ 255) (hda : 0 ≤ a2 ∧ a2 ≤ 255) (w : World) (h : MixAt w p ps pd (.func (.func 125) #[] #[]) r g b a r2 g2 b2' a2) :
    Calls Try.prog 96 #[.int .i64 x, .int .i64 y, .pointer (some ⟨p, 0, none⟩), .pointer (some ⟨ps, 0, none⟩), .pointer (some ⟨pd, 0, none⟩)] w fun e w' => e = .returned (.int .i64 (blendI 5 x y a a2)) ∧ Below w.heap.size w w' := by
  have E := hide (implMeet_out x y a a2 hs hd hsa hda)
  have hO : Hid (blendI 5 x y a a2 = min (outI 5 x y a a2) 255) := (min_cap _).symm
  generalize outI 5 x y a a2 = V at E hO
  rw [unhide hO]
  clear hs hd hsa hda hO
  obtain ⟨c, h1, h2⟩ := h
  obtain ⟨q0, q1, q2, q3⟩ := row4 h1
  obtain ⟨d0, d1, d2, d3⟩ := row4 h2
  clear h1 h2
  go_enter Try.func96, Try.ntmps96
  go_wp2_with fail
  go_fit (unhide E _)
  rintro e w1 ⟨rfl, hb⟩
  go_wp2_with fail
  go_ret
  exact ⟨rfl, hb⟩

theorem implBlendOf_out (w : World) :
    Calls Try.prog 94 #[.int .i64 5] w fun e w' => e = .returned (.tuple #[.func (.func 125) #[] #[], .bool true]) ∧ Below w.heap.size w w' := by
  go_enter Try.func94, Try.ntmps94
  go_wp2_with fail
  exact bodyPost_ret (v := .tuple #[.func (.func 125) #[] #[], .bool true]) (by simp [results, Try.results94, go_sem]) rfl ⟨rfl, al1_below _ _⟩

theorem implBlendOf_none (m : Int) (h : m < 1 ∨ 5 < m) (w : World) :
    Calls Try.prog 94 #[.int .i64 m] w fun e w' => e = .returned (.tuple #[.nilFunc, .bool false]) ∧ w' = w := by
  by_cases h1 : m < 1
  · go_enter Try.func94, Try.ntmps94
    go_wp2_with fail
    exact bodyPost_ret (v := .tuple #[.nilFunc, .bool false]) (by simp [results, Try.results94, go_sem]) rfl ⟨rfl, rfl⟩
  · have h2 : 5 < m := by omega
    clear h
    go_enter Try.func94, Try.ntmps94
    go_wp2_with fail
    exact bodyPost_ret (v := .tuple #[.nilFunc, .bool false]) (by simp [results, Try.results94, go_sem]) rfl ⟨rfl, rfl⟩

theorem blend_not {m : Int} (hm : m < 1 ∨ 5 < m) {s d : B4} : blendC m s d = d := by
  unfold blendC
  split
  · rename_i h
    have hd := laidOk_iff.1 h.2
    unfold blendI outI
    rw [if_neg (by omega), if_neg (by omega), if_neg (by omega), if_neg (by omega), if_neg (by omega), if_neg (by omega), if_neg (by omega), if_neg (by omega), if_neg (by omega), if_neg (by omega), if_neg (by omega), if_neg (by omega), if_neg (by omega), if_neg (by omega), if_neg (by omega), if_neg (by omega), if_neg (by omega), if_neg (by omega), if_neg (by omega), if_neg (by omega), cap_id (by omega), cap_id (by omega), cap_id (by omega), cap_id (by omega)]
  · rfl

set_option maxHeartbeats 8000000 in
set_option maxRecDepth 100000 in
theorem implBlend_none (m : Int) (hm : m < 1 ∨ 5 < m) (r g b a r2 g2 b2' a2 : Int) (w : World) :
    Calls Try.prog 47 #[.int .i64 m, .agg #[.int .i64 r, .int .i64 g, .int .i64 b, .int .i64 a], .agg #[.int .i64 r2, .int .i64 g2, .int .i64 b2', .int .i64 a2]] w fun e w' => e = .returned (.agg #[.int .i64 ((blendC m ⟨r, g, b, a⟩ ⟨r2, g2, b2', a2⟩).x0), .int .i64 ((blendC m ⟨r, g, b, a⟩ ⟨r2, g2, b2', a2⟩).y0), .int .i64 ((blendC m ⟨r, g, b, a⟩ ⟨r2, g2, b2', a2⟩).x1), .int .i64 ((blendC m ⟨r, g, b, a⟩ ⟨r2, g2, b2', a2⟩).y1)]) ∧ Below w.heap.size w w' := by
  have EO := hide (implBlendOf_none m hm)
  have hC : Hid (blendC m ⟨r, g, b, a⟩ ⟨r2, g2, b2', a2⟩ = ⟨r2, g2, b2', a2⟩) := blend_not hm
  generalize blendC m ⟨r, g, b, a⟩ ⟨r2, g2, b2', a2⟩ = C at hC ⊢
  go_enter Try.func47, Try.ntmps47
  go_upto_region 1 with fail
  have R1 := hide (al3_0 w (.cells #[.int .i64 r, .int .i64 g, .int .i64 b, .int .i64 a] 71) (.cells #[.int .i64 r2, .int .i64 g2, .int .i64 b2', .int .i64 a2] 71) (.cells #[.int .i64 0, .int .i64 0, .int .i64 0, .int .i64 0] 71))
  have R2 := hide (al3_1 w (.cells #[.int .i64 r, .int .i64 g, .int .i64 b, .int .i64 a] 71) (.cells #[.int .i64 r2, .int .i64 g2, .int .i64 b2', .int .i64 a2] 71) (.cells #[.int .i64 0, .int .i64 0, .int .i64 0, .int .i64 0] 71))
  have R3 := hide (al3_2 w (.cells #[.int .i64 r, .int .i64 g, .int .i64 b, .int .i64 a] 71) (.cells #[.int .i64 r2, .int .i64 g2, .int .i64 b2', .int .i64 a2] 71) (.cells #[.int .i64 0, .int .i64 0, .int .i64 0, .int .i64 0] 71))
  have HB := hide (al3_below w (.cells #[.int .i64 r, .int .i64 g, .int .i64 b, .int .i64 a] 71) (.cells #[.int .i64 r2, .int .i64 g2, .int .i64 b2', .int .i64 a2] 71) (.cells #[.int .i64 0, .int .i64 0, .int .i64 0, .int .i64 0] 71))
  obtain ⟨b3, hb3⟩ : ∃ b, Hid (b = w.heap.size + 1 + 1) := ⟨_, rfl⟩
  obtain ⟨b2, hb2⟩ : ∃ b, Hid (b = w.heap.size + 1) := ⟨_, rfl⟩
  obtain ⟨b1, hb1⟩ : ∃ b, Hid (b = w.heap.size) := ⟨_, rfl⟩
  have lz : Hid (w.heap.size ≤ b3 ∧ b1 < b3 ∧ b2 < b3) := by unfold Hid; rw [unhide hb3, unhide hb2, unhide hb1]; omega
  rw [← unhide hb3] at R3
  rw [← unhide hb2] at R2
  rw [← unhide hb1] at R1
  rw [← unhide hb3, ← unhide hb2, ← unhide hb1]
  generalize ((w.alloc (.cells #[.int .i64 r, .int .i64 g, .int .i64 b, .int .i64 a] 71)).alloc (.cells #[.int .i64 r2, .int .i64 g2, .int .i64 b2', .int .i64 a2] 71)).alloc (.cells #[.int .i64 0, .int .i64 0, .int .i64 0, .int .i64 0] 71) = W at R1 R2 R3 HB ⊢
  clear hb3 hb2 hb1
  go_wp2_with fail
  go_fit (unhide EO _)
  rintro e w1 ⟨rfl, rfl⟩
  go_upto_region 2 with fail
  have R4 := hide (new_row w1 (.cells #[.nilFunc] 115))
  replace R1 := hide (old_row (.cells #[.nilFunc] 115) (unhide R1))
  replace R2 := hide (old_row (.cells #[.nilFunc] 115) (unhide R2))
  replace R3 := hide (old_row (.cells #[.nilFunc] 115) (unhide R3))
  replace HB := hide (below_two (unhide HB) (al1_below _ (.cells #[.nilFunc] 115)))
  obtain ⟨b4, hb4⟩ : ∃ b, Hid (b = w1.heap.size) := ⟨_, rfl⟩
  rw [← unhide hb4] at R4
  rw [← unhide hb4]
  generalize w1.alloc (.cells #[.nilFunc] 115) = V at R1 R2 R3 R4 HB ⊢
  clear hb4
  obtain ⟨q0, q1, q2, q3⟩ := row4 (unhide R1)
  obtain ⟨d0, d1, d2, d3⟩ := row4 (unhide R2)
  obtain ⟨e0, e1, e2, e3⟩ := row4 (unhide R3)
  obtain ⟨f0, f1, f2, f3⟩ := free4 (unhide R3)
  go_wp2_with fail
  refine bodyPost_ret (v := .agg #[.int .i64 r2, .int .i64 g2, .int .i64 b2', .int .i64 a2]) (by simp [results, Try.results47, go_sem, e0, e1, e2, e3]) rfl ⟨by rw [unhide hC], ?_⟩
  exact below_put4 (unhide HB) (unhide lz).1 _ _ _ _

end Go.Proofs.Ytmomgbnhildpdab

/-
  The program's Blend. (By blendi.py.)
-/
namespace Go.Proofs.Ytmomgbnhildpdab
open Go.RowKit
set_option linter.unusedVariables false

set_option maxHeartbeats 8000000 in
set_option maxRecDepth 100000 in
theorem implBlend_over (r g b a r2 g2 b2' a2 : Int) (w : World) :
    Calls Try.prog 47 #[.int .i64 1, .agg #[.int .i64 r, .int .i64 g, .int .i64 b, .int .i64 a], .agg #[.int .i64 r2, .int .i64 g2, .int .i64 b2', .int .i64 a2]] w fun e w' => e = .returned (.agg #[.int .i64 ((blendC 1 ⟨r, g, b, a⟩ ⟨r2, g2, b2', a2⟩).x0), .int .i64 ((blendC 1 ⟨r, g, b, a⟩ ⟨r2, g2, b2', a2⟩).y0), .int .i64 ((blendC 1 ⟨r, g, b, a⟩ ⟨r2, g2, b2', a2⟩).x1), .int .i64 ((blendC 1 ⟨r, g, b, a⟩ ⟨r2, g2, b2', a2⟩).y1)]) ∧ Below w.heap.size w w' := by
  have EO := hide (implBlendOf_over)
  have ES := hide (implLaidOk_any r g b a)
  have ED := hide (implLaidOk_any r2 g2 b2' a2)
  have hH : Hid (blendC 1 ⟨r, g, b, a⟩ ⟨r2, g2, b2', a2⟩ = if laidOkB ⟨r, g, b, a⟩ = true ∧ laidOkB ⟨r2, g2, b2', a2⟩ = true then ⟨blendI 1 r r2 a a2, blendI 1 g g2 a a2, blendI 1 b b2' a a2, blendI 1 a a2 a a2⟩ else ⟨r2, g2, b2', a2⟩) := rfl
  have hok : Hid (laidOkB ⟨r, g, b, a⟩ = true → ((0 ≤ r ∧ r ≤ 255) ∧ (0 ≤ g ∧ g ≤ 255) ∧ (0 ≤ b ∧ b ≤ 255) ∧ (0 ≤ a ∧ a ≤ 255))) := fun h => by
    have h1 := laidOk_iff.1 h
    dsimp only at h1
    omega
  have hok2 : Hid (laidOkB ⟨r2, g2, b2', a2⟩ = true → ((0 ≤ r2 ∧ r2 ≤ 255) ∧ (0 ≤ g2 ∧ g2 ≤ 255) ∧ (0 ≤ b2' ∧ b2' ≤ 255) ∧ (0 ≤ a2 ∧ a2 ≤ 255))) := fun h => by
    have h1 := laidOk_iff.1 h
    dsimp only at h1
    omega
  generalize laidOkB ⟨r, g, b, a⟩ = X at ES hH hok
  generalize laidOkB ⟨r2, g2, b2', a2⟩ = Y at ED hH hok2
  generalize blendC 1 ⟨r, g, b, a⟩ ⟨r2, g2, b2', a2⟩ = C at hH ⊢
  go_enter Try.func47, Try.ntmps47
  go_upto_region 1 with fail
  have R1 := hide (al3_0 w (.cells #[.int .i64 r, .int .i64 g, .int .i64 b, .int .i64 a] 71) (.cells #[.int .i64 r2, .int .i64 g2, .int .i64 b2', .int .i64 a2] 71) (.cells #[.int .i64 0, .int .i64 0, .int .i64 0, .int .i64 0] 71))
  have R2 := hide (al3_1 w (.cells #[.int .i64 r, .int .i64 g, .int .i64 b, .int .i64 a] 71) (.cells #[.int .i64 r2, .int .i64 g2, .int .i64 b2', .int .i64 a2] 71) (.cells #[.int .i64 0, .int .i64 0, .int .i64 0, .int .i64 0] 71))
  have R3 := hide (al3_2 w (.cells #[.int .i64 r, .int .i64 g, .int .i64 b, .int .i64 a] 71) (.cells #[.int .i64 r2, .int .i64 g2, .int .i64 b2', .int .i64 a2] 71) (.cells #[.int .i64 0, .int .i64 0, .int .i64 0, .int .i64 0] 71))
  have HB := hide (al3_below w (.cells #[.int .i64 r, .int .i64 g, .int .i64 b, .int .i64 a] 71) (.cells #[.int .i64 r2, .int .i64 g2, .int .i64 b2', .int .i64 a2] 71) (.cells #[.int .i64 0, .int .i64 0, .int .i64 0, .int .i64 0] 71))
  obtain ⟨b3, hb3⟩ : ∃ b, Hid (b = w.heap.size + 1 + 1) := ⟨_, rfl⟩
  obtain ⟨b2, hb2⟩ : ∃ b, Hid (b = w.heap.size + 1) := ⟨_, rfl⟩
  obtain ⟨b1, hb1⟩ : ∃ b, Hid (b = w.heap.size) := ⟨_, rfl⟩
  have lz : Hid (w.heap.size ≤ b3 ∧ b1 < b3 ∧ b2 < b3) := by unfold Hid; rw [unhide hb3, unhide hb2, unhide hb1]; omega
  rw [← unhide hb3] at R3
  rw [← unhide hb2] at R2
  rw [← unhide hb1] at R1
  rw [← unhide hb3, ← unhide hb2, ← unhide hb1]
  generalize ((w.alloc (.cells #[.int .i64 r, .int .i64 g, .int .i64 b, .int .i64 a] 71)).alloc (.cells #[.int .i64 r2, .int .i64 g2, .int .i64 b2', .int .i64 a2] 71)).alloc (.cells #[.int .i64 0, .int .i64 0, .int .i64 0, .int .i64 0] 71) = W at R1 R2 R3 HB ⊢
  clear hb3 hb2 hb1
  go_wp2_with fail
  go_fit (unhide EO _)
  rintro e w1 ⟨rfl, hb⟩
  replace R1 := hide (row_next hb (unhide R1))
  replace R2 := hide (row_next hb (unhide R2))
  replace R3 := hide (row_next hb (unhide R3))
  replace HB := hide (below_two (unhide HB) hb)
  clear hb
  go_upto_region 2 with fail
  have R4 := hide (new_row w1 (.cells #[.func (.func 121) #[] #[]] 115))
  replace R1 := hide (old_row (.cells #[.func (.func 121) #[] #[]] 115) (unhide R1))
  replace R2 := hide (old_row (.cells #[.func (.func 121) #[] #[]] 115) (unhide R2))
  replace R3 := hide (old_row (.cells #[.func (.func 121) #[] #[]] 115) (unhide R3))
  replace HB := hide (below_two (unhide HB) (al1_below _ (.cells #[.func (.func 121) #[] #[]] 115)))
  obtain ⟨b4, hb4⟩ : ∃ b, Hid (b = w1.heap.size) := ⟨_, rfl⟩
  rw [← unhide hb4] at R4
  rw [← unhide hb4]
  generalize w1.alloc (.cells #[.func (.func 121) #[] #[]] 115) = V at R1 R2 R3 R4 HB ⊢
  clear hb4
  obtain ⟨q0, q1, q2, q3⟩ := row4 (unhide R1)
  obtain ⟨d0, d1, d2, d3⟩ := row4 (unhide R2)
  obtain ⟨e0, e1, e2, e3⟩ := row4 (unhide R3)
  obtain ⟨f0, f1, f2, f3⟩ := free4 (unhide R3)
  go_wp2_with fail
  go_fit (unhide ES _)
  rintro e w2 ⟨rfl, hb⟩
  replace R1 := hide (row_next hb (unhide R1))
  replace R2 := hide (row_next hb (unhide R2))
  replace R3 := hide (row_next hb (unhide R3))
  replace R4 := hide (row_next hb (unhide R4))
  replace HB := hide (below_two (unhide HB) hb)
  clear hb q0 q1 q2 q3 d0 d1 d2 d3 e0 e1 e2 e3 f0 f1 f2 f3
  obtain ⟨q0, q1, q2, q3⟩ := row4 (unhide R1)
  obtain ⟨d0, d1, d2, d3⟩ := row4 (unhide R2)
  obtain ⟨e0, e1, e2, e3⟩ := row4 (unhide R3)
  obtain ⟨f0, f1, f2, f3⟩ := free4 (unhide R3)
  cases X with
  | false =>
    have hC := hide (show C = ⟨r2, g2, b2', a2⟩ by rw [unhide hH]; exact if_neg (fun e => absurd e.1 (by decide)))
    go_wp2_with fail
    refine bodyPost_ret (v := .agg #[.int .i64 r2, .int .i64 g2, .int .i64 b2', .int .i64 a2]) (by simp [results, Try.results47, go_sem, e0, e1, e2, e3]) rfl ⟨by rw [unhide hC], ?_⟩
    exact below_put4 (unhide HB) (unhide lz).1 _ _ _ _
  | true =>
  go_wp2_with fail
  go_fit (unhide ED _)
  rintro e w3 ⟨rfl, hb⟩
  replace R1 := hide (row_next hb (unhide R1))
  replace R2 := hide (row_next hb (unhide R2))
  replace R3 := hide (row_next hb (unhide R3))
  replace R4 := hide (row_next hb (unhide R4))
  replace HB := hide (below_two (unhide HB) hb)
  clear hb q0 q1 q2 q3 d0 d1 d2 d3 e0 e1 e2 e3 f0 f1 f2 f3
  obtain ⟨q0, q1, q2, q3⟩ := row4 (unhide R1)
  obtain ⟨d0, d1, d2, d3⟩ := row4 (unhide R2)
  obtain ⟨e0, e1, e2, e3⟩ := row4 (unhide R3)
  obtain ⟨f0, f1, f2, f3⟩ := free4 (unhide R3)
  cases Y with
  | false =>
    have hC := hide (show C = ⟨r2, g2, b2', a2⟩ by rw [unhide hH]; exact if_neg (fun e => absurd e.2 (by decide)))
    go_wp2_with fail
    refine bodyPost_ret (v := .agg #[.int .i64 r2, .int .i64 g2, .int .i64 b2', .int .i64 a2]) (by simp [results, Try.results47, go_sem, e0, e1, e2, e3]) rfl ⟨by rw [unhide hC], ?_⟩
    exact below_put4 (unhide HB) (unhide lz).1 _ _ _ _
  | true =>
  have hC := hide (show C = ⟨blendI 1 r r2 a a2, blendI 1 g g2 a a2, blendI 1 b b2' a a2, blendI 1 a a2 a a2⟩ by rw [unhide hH]; exact if_pos ⟨by trivial, by trivial⟩)
  obtain ⟨s0, s1, s2, s3⟩ := unhide hok (by trivial)
  obtain ⟨t0, t1, t2, t3⟩ := unhide hok2 (by trivial)
  have EE := hide (fun p ps pd => implEachPart_blend p ps pd r g b a r2 g2 b2' a2 (blendI 1 r r2 a a2) (blendI 1 g g2 a a2) (blendI 1 b b2' a a2) (blendI 1 a a2 a a2) (fun u => MixAt u p ps pd (.func (.func 121) #[] #[]) r g b a r2 g2 b2' a2) (fun u u' j hb => j.next hb)
    (fun u j => implMix_over p ps pd r r2 r g b a r2 g2 b2' a2 s0 t0 s3 t3 u j) (fun u j => implMix_over p ps pd g g2 r g b a r2 g2 b2' a2 s1 t1 s3 t3 u j) (fun u j => implMix_over p ps pd b b2' r g b a r2 g2 b2' a2 s2 t2 s3 t3 u j) (fun u j => implMix_over p ps pd a a2 r g b a r2 g2 b2' a2 s3 t3 s3 t3 u j))
  generalize blendI 1 r r2 a a2 = m0 at EE hC
  generalize blendI 1 g g2 a a2 = m1 at EE hC
  generalize blendI 1 b b2' a a2 = m2 at EE hC
  generalize blendI 1 a a2 a a2 = m3 at EE hC
  clear s0 s1 s2 s3 t0 t1 t2 t3 hok hok2 hH ES ED EO
  go_wp2_with fail
  go_fit (unhide EE _ _ _ _ ⟨cell_lone (unhide R4), unhide R1, unhide R2⟩)
  rintro e w4 ⟨rfl, hb⟩
  replace R1 := hide (row_next hb (unhide R1))
  replace R2 := hide (row_next hb (unhide R2))
  replace R3 := hide (row_next hb (unhide R3))
  replace R4 := hide (row_next hb (unhide R4))
  replace HB := hide (below_two (unhide HB) hb)
  clear hb q0 q1 q2 q3 d0 d1 d2 d3 e0 e1 e2 e3 f0 f1 f2 f3
  obtain ⟨q0, q1, q2, q3⟩ := row4 (unhide R1)
  obtain ⟨d0, d1, d2, d3⟩ := row4 (unhide R2)
  obtain ⟨e0, e1, e2, e3⟩ := row4 (unhide R3)
  obtain ⟨f0, f1, f2, f3⟩ := free4 (unhide R3)
  go_wp2_with fail
  refine bodyPost_ret (v := .agg #[.int .i64 m0, .int .i64 m1, .int .i64 m2, .int .i64 m3]) (by simp [results, Try.results47, go_sem, e0, e1, e2, e3]) rfl ⟨by rw [unhide hC], ?_⟩
  exact below_put4 (unhide HB) (unhide lz).1 _ _ _ _

set_option maxHeartbeats 8000000 in
set_option maxRecDepth 100000 in
theorem implBlend_multiply (r g b a r2 g2 b2' a2 : Int) (w : World) :
    Calls Try.prog 47 #[.int .i64 2, .agg #[.int .i64 r, .int .i64 g, .int .i64 b, .int .i64 a], .agg #[.int .i64 r2, .int .i64 g2, .int .i64 b2', .int .i64 a2]] w fun e w' => e = .returned (.agg #[.int .i64 ((blendC 2 ⟨r, g, b, a⟩ ⟨r2, g2, b2', a2⟩).x0), .int .i64 ((blendC 2 ⟨r, g, b, a⟩ ⟨r2, g2, b2', a2⟩).y0), .int .i64 ((blendC 2 ⟨r, g, b, a⟩ ⟨r2, g2, b2', a2⟩).x1), .int .i64 ((blendC 2 ⟨r, g, b, a⟩ ⟨r2, g2, b2', a2⟩).y1)]) ∧ Below w.heap.size w w' := by
  have EO := hide (implBlendOf_multiply)
  have ES := hide (implLaidOk_any r g b a)
  have ED := hide (implLaidOk_any r2 g2 b2' a2)
  have hH : Hid (blendC 2 ⟨r, g, b, a⟩ ⟨r2, g2, b2', a2⟩ = if laidOkB ⟨r, g, b, a⟩ = true ∧ laidOkB ⟨r2, g2, b2', a2⟩ = true then ⟨blendI 2 r r2 a a2, blendI 2 g g2 a a2, blendI 2 b b2' a a2, blendI 2 a a2 a a2⟩ else ⟨r2, g2, b2', a2⟩) := rfl
  have hok : Hid (laidOkB ⟨r, g, b, a⟩ = true → ((0 ≤ r ∧ r ≤ 255) ∧ (0 ≤ g ∧ g ≤ 255) ∧ (0 ≤ b ∧ b ≤ 255) ∧ (0 ≤ a ∧ a ≤ 255))) := fun h => by
    have h1 := laidOk_iff.1 h
    dsimp only at h1
    omega
  have hok2 : Hid (laidOkB ⟨r2, g2, b2', a2⟩ = true → ((0 ≤ r2 ∧ r2 ≤ 255) ∧ (0 ≤ g2 ∧ g2 ≤ 255) ∧ (0 ≤ b2' ∧ b2' ≤ 255) ∧ (0 ≤ a2 ∧ a2 ≤ 255))) := fun h => by
    have h1 := laidOk_iff.1 h
    dsimp only at h1
    omega
  generalize laidOkB ⟨r, g, b, a⟩ = X at ES hH hok
  generalize laidOkB ⟨r2, g2, b2', a2⟩ = Y at ED hH hok2
  generalize blendC 2 ⟨r, g, b, a⟩ ⟨r2, g2, b2', a2⟩ = C at hH ⊢
  go_enter Try.func47, Try.ntmps47
  go_upto_region 1 with fail
  have R1 := hide (al3_0 w (.cells #[.int .i64 r, .int .i64 g, .int .i64 b, .int .i64 a] 71) (.cells #[.int .i64 r2, .int .i64 g2, .int .i64 b2', .int .i64 a2] 71) (.cells #[.int .i64 0, .int .i64 0, .int .i64 0, .int .i64 0] 71))
  have R2 := hide (al3_1 w (.cells #[.int .i64 r, .int .i64 g, .int .i64 b, .int .i64 a] 71) (.cells #[.int .i64 r2, .int .i64 g2, .int .i64 b2', .int .i64 a2] 71) (.cells #[.int .i64 0, .int .i64 0, .int .i64 0, .int .i64 0] 71))
  have R3 := hide (al3_2 w (.cells #[.int .i64 r, .int .i64 g, .int .i64 b, .int .i64 a] 71) (.cells #[.int .i64 r2, .int .i64 g2, .int .i64 b2', .int .i64 a2] 71) (.cells #[.int .i64 0, .int .i64 0, .int .i64 0, .int .i64 0] 71))
  have HB := hide (al3_below w (.cells #[.int .i64 r, .int .i64 g, .int .i64 b, .int .i64 a] 71) (.cells #[.int .i64 r2, .int .i64 g2, .int .i64 b2', .int .i64 a2] 71) (.cells #[.int .i64 0, .int .i64 0, .int .i64 0, .int .i64 0] 71))
  obtain ⟨b3, hb3⟩ : ∃ b, Hid (b = w.heap.size + 1 + 1) := ⟨_, rfl⟩
  obtain ⟨b2, hb2⟩ : ∃ b, Hid (b = w.heap.size + 1) := ⟨_, rfl⟩
  obtain ⟨b1, hb1⟩ : ∃ b, Hid (b = w.heap.size) := ⟨_, rfl⟩
  have lz : Hid (w.heap.size ≤ b3 ∧ b1 < b3 ∧ b2 < b3) := by unfold Hid; rw [unhide hb3, unhide hb2, unhide hb1]; omega
  rw [← unhide hb3] at R3
  rw [← unhide hb2] at R2
  rw [← unhide hb1] at R1
  rw [← unhide hb3, ← unhide hb2, ← unhide hb1]
  generalize ((w.alloc (.cells #[.int .i64 r, .int .i64 g, .int .i64 b, .int .i64 a] 71)).alloc (.cells #[.int .i64 r2, .int .i64 g2, .int .i64 b2', .int .i64 a2] 71)).alloc (.cells #[.int .i64 0, .int .i64 0, .int .i64 0, .int .i64 0] 71) = W at R1 R2 R3 HB ⊢
  clear hb3 hb2 hb1
  go_wp2_with fail
  go_fit (unhide EO _)
  rintro e w1 ⟨rfl, hb⟩
  replace R1 := hide (row_next hb (unhide R1))
  replace R2 := hide (row_next hb (unhide R2))
  replace R3 := hide (row_next hb (unhide R3))
  replace HB := hide (below_two (unhide HB) hb)
  clear hb
  go_upto_region 2 with fail
  have R4 := hide (new_row w1 (.cells #[.func (.func 122) #[] #[]] 115))
  replace R1 := hide (old_row (.cells #[.func (.func 122) #[] #[]] 115) (unhide R1))
  replace R2 := hide (old_row (.cells #[.func (.func 122) #[] #[]] 115) (unhide R2))
  replace R3 := hide (old_row (.cells #[.func (.func 122) #[] #[]] 115) (unhide R3))
  replace HB := hide (below_two (unhide HB) (al1_below _ (.cells #[.func (.func 122) #[] #[]] 115)))
  obtain ⟨b4, hb4⟩ : ∃ b, Hid (b = w1.heap.size) := ⟨_, rfl⟩
  rw [← unhide hb4] at R4
  rw [← unhide hb4]
  generalize w1.alloc (.cells #[.func (.func 122) #[] #[]] 115) = V at R1 R2 R3 R4 HB ⊢
  clear hb4
  obtain ⟨q0, q1, q2, q3⟩ := row4 (unhide R1)
  obtain ⟨d0, d1, d2, d3⟩ := row4 (unhide R2)
  obtain ⟨e0, e1, e2, e3⟩ := row4 (unhide R3)
  obtain ⟨f0, f1, f2, f3⟩ := free4 (unhide R3)
  go_wp2_with fail
  go_fit (unhide ES _)
  rintro e w2 ⟨rfl, hb⟩
  replace R1 := hide (row_next hb (unhide R1))
  replace R2 := hide (row_next hb (unhide R2))
  replace R3 := hide (row_next hb (unhide R3))
  replace R4 := hide (row_next hb (unhide R4))
  replace HB := hide (below_two (unhide HB) hb)
  clear hb q0 q1 q2 q3 d0 d1 d2 d3 e0 e1 e2 e3 f0 f1 f2 f3
  obtain ⟨q0, q1, q2, q3⟩ := row4 (unhide R1)
  obtain ⟨d0, d1, d2, d3⟩ := row4 (unhide R2)
  obtain ⟨e0, e1, e2, e3⟩ := row4 (unhide R3)
  obtain ⟨f0, f1, f2, f3⟩ := free4 (unhide R3)
  cases X with
  | false =>
    have hC := hide (show C = ⟨r2, g2, b2', a2⟩ by rw [unhide hH]; exact if_neg (fun e => absurd e.1 (by decide)))
    go_wp2_with fail
    refine bodyPost_ret (v := .agg #[.int .i64 r2, .int .i64 g2, .int .i64 b2', .int .i64 a2]) (by simp [results, Try.results47, go_sem, e0, e1, e2, e3]) rfl ⟨by rw [unhide hC], ?_⟩
    exact below_put4 (unhide HB) (unhide lz).1 _ _ _ _
  | true =>
  go_wp2_with fail
  go_fit (unhide ED _)
  rintro e w3 ⟨rfl, hb⟩
  replace R1 := hide (row_next hb (unhide R1))
  replace R2 := hide (row_next hb (unhide R2))
  replace R3 := hide (row_next hb (unhide R3))
  replace R4 := hide (row_next hb (unhide R4))
  replace HB := hide (below_two (unhide HB) hb)
  clear hb q0 q1 q2 q3 d0 d1 d2 d3 e0 e1 e2 e3 f0 f1 f2 f3
  obtain ⟨q0, q1, q2, q3⟩ := row4 (unhide R1)
  obtain ⟨d0, d1, d2, d3⟩ := row4 (unhide R2)
  obtain ⟨e0, e1, e2, e3⟩ := row4 (unhide R3)
  obtain ⟨f0, f1, f2, f3⟩ := free4 (unhide R3)
  cases Y with
  | false =>
    have hC := hide (show C = ⟨r2, g2, b2', a2⟩ by rw [unhide hH]; exact if_neg (fun e => absurd e.2 (by decide)))
    go_wp2_with fail
    refine bodyPost_ret (v := .agg #[.int .i64 r2, .int .i64 g2, .int .i64 b2', .int .i64 a2]) (by simp [results, Try.results47, go_sem, e0, e1, e2, e3]) rfl ⟨by rw [unhide hC], ?_⟩
    exact below_put4 (unhide HB) (unhide lz).1 _ _ _ _
  | true =>
  have hC := hide (show C = ⟨blendI 2 r r2 a a2, blendI 2 g g2 a a2, blendI 2 b b2' a a2, blendI 2 a a2 a a2⟩ by rw [unhide hH]; exact if_pos ⟨by trivial, by trivial⟩)
  obtain ⟨s0, s1, s2, s3⟩ := unhide hok (by trivial)
  obtain ⟨t0, t1, t2, t3⟩ := unhide hok2 (by trivial)
  have EE := hide (fun p ps pd => implEachPart_blend p ps pd r g b a r2 g2 b2' a2 (blendI 2 r r2 a a2) (blendI 2 g g2 a a2) (blendI 2 b b2' a a2) (blendI 2 a a2 a a2) (fun u => MixAt u p ps pd (.func (.func 122) #[] #[]) r g b a r2 g2 b2' a2) (fun u u' j hb => j.next hb)
    (fun u j => implMix_multiply p ps pd r r2 r g b a r2 g2 b2' a2 s0 t0 s3 t3 u j) (fun u j => implMix_multiply p ps pd g g2 r g b a r2 g2 b2' a2 s1 t1 s3 t3 u j) (fun u j => implMix_multiply p ps pd b b2' r g b a r2 g2 b2' a2 s2 t2 s3 t3 u j) (fun u j => implMix_multiply p ps pd a a2 r g b a r2 g2 b2' a2 s3 t3 s3 t3 u j))
  generalize blendI 2 r r2 a a2 = m0 at EE hC
  generalize blendI 2 g g2 a a2 = m1 at EE hC
  generalize blendI 2 b b2' a a2 = m2 at EE hC
  generalize blendI 2 a a2 a a2 = m3 at EE hC
  clear s0 s1 s2 s3 t0 t1 t2 t3 hok hok2 hH ES ED EO
  go_wp2_with fail
  go_fit (unhide EE _ _ _ _ ⟨cell_lone (unhide R4), unhide R1, unhide R2⟩)
  rintro e w4 ⟨rfl, hb⟩
  replace R1 := hide (row_next hb (unhide R1))
  replace R2 := hide (row_next hb (unhide R2))
  replace R3 := hide (row_next hb (unhide R3))
  replace R4 := hide (row_next hb (unhide R4))
  replace HB := hide (below_two (unhide HB) hb)
  clear hb q0 q1 q2 q3 d0 d1 d2 d3 e0 e1 e2 e3 f0 f1 f2 f3
  obtain ⟨q0, q1, q2, q3⟩ := row4 (unhide R1)
  obtain ⟨d0, d1, d2, d3⟩ := row4 (unhide R2)
  obtain ⟨e0, e1, e2, e3⟩ := row4 (unhide R3)
  obtain ⟨f0, f1, f2, f3⟩ := free4 (unhide R3)
  go_wp2_with fail
  refine bodyPost_ret (v := .agg #[.int .i64 m0, .int .i64 m1, .int .i64 m2, .int .i64 m3]) (by simp [results, Try.results47, go_sem, e0, e1, e2, e3]) rfl ⟨by rw [unhide hC], ?_⟩
  exact below_put4 (unhide HB) (unhide lz).1 _ _ _ _

set_option maxHeartbeats 8000000 in
set_option maxRecDepth 100000 in
theorem implBlend_screen (r g b a r2 g2 b2' a2 : Int) (w : World) :
    Calls Try.prog 47 #[.int .i64 3, .agg #[.int .i64 r, .int .i64 g, .int .i64 b, .int .i64 a], .agg #[.int .i64 r2, .int .i64 g2, .int .i64 b2', .int .i64 a2]] w fun e w' => e = .returned (.agg #[.int .i64 ((blendC 3 ⟨r, g, b, a⟩ ⟨r2, g2, b2', a2⟩).x0), .int .i64 ((blendC 3 ⟨r, g, b, a⟩ ⟨r2, g2, b2', a2⟩).y0), .int .i64 ((blendC 3 ⟨r, g, b, a⟩ ⟨r2, g2, b2', a2⟩).x1), .int .i64 ((blendC 3 ⟨r, g, b, a⟩ ⟨r2, g2, b2', a2⟩).y1)]) ∧ Below w.heap.size w w' := by
  have EO := hide (implBlendOf_screen)
  have ES := hide (implLaidOk_any r g b a)
  have ED := hide (implLaidOk_any r2 g2 b2' a2)
  have hH : Hid (blendC 3 ⟨r, g, b, a⟩ ⟨r2, g2, b2', a2⟩ = if laidOkB ⟨r, g, b, a⟩ = true ∧ laidOkB ⟨r2, g2, b2', a2⟩ = true then ⟨blendI 3 r r2 a a2, blendI 3 g g2 a a2, blendI 3 b b2' a a2, blendI 3 a a2 a a2⟩ else ⟨r2, g2, b2', a2⟩) := rfl
  have hok : Hid (laidOkB ⟨r, g, b, a⟩ = true → ((0 ≤ r ∧ r ≤ 255) ∧ (0 ≤ g ∧ g ≤ 255) ∧ (0 ≤ b ∧ b ≤ 255) ∧ (0 ≤ a ∧ a ≤ 255))) := fun h => by
    have h1 := laidOk_iff.1 h
    dsimp only at h1
    omega
  have hok2 : Hid (laidOkB ⟨r2, g2, b2', a2⟩ = true → ((0 ≤ r2 ∧ r2 ≤ 255) ∧ (0 ≤ g2 ∧ g2 ≤ 255) ∧ (0 ≤ b2' ∧ b2' ≤ 255) ∧ (0 ≤ a2 ∧ a2 ≤ 255))) := fun h => by
    have h1 := laidOk_iff.1 h
    dsimp only at h1
    omega
  generalize laidOkB ⟨r, g, b, a⟩ = X at ES hH hok
  generalize laidOkB ⟨r2, g2, b2', a2⟩ = Y at ED hH hok2
  generalize blendC 3 ⟨r, g, b, a⟩ ⟨r2, g2, b2', a2⟩ = C at hH ⊢
  go_enter Try.func47, Try.ntmps47
  go_upto_region 1 with fail
  have R1 := hide (al3_0 w (.cells #[.int .i64 r, .int .i64 g, .int .i64 b, .int .i64 a] 71) (.cells #[.int .i64 r2, .int .i64 g2, .int .i64 b2', .int .i64 a2] 71) (.cells #[.int .i64 0, .int .i64 0, .int .i64 0, .int .i64 0] 71))
  have R2 := hide (al3_1 w (.cells #[.int .i64 r, .int .i64 g, .int .i64 b, .int .i64 a] 71) (.cells #[.int .i64 r2, .int .i64 g2, .int .i64 b2', .int .i64 a2] 71) (.cells #[.int .i64 0, .int .i64 0, .int .i64 0, .int .i64 0] 71))
  have R3 := hide (al3_2 w (.cells #[.int .i64 r, .int .i64 g, .int .i64 b, .int .i64 a] 71) (.cells #[.int .i64 r2, .int .i64 g2, .int .i64 b2', .int .i64 a2] 71) (.cells #[.int .i64 0, .int .i64 0, .int .i64 0, .int .i64 0] 71))
  have HB := hide (al3_below w (.cells #[.int .i64 r, .int .i64 g, .int .i64 b, .int .i64 a] 71) (.cells #[.int .i64 r2, .int .i64 g2, .int .i64 b2', .int .i64 a2] 71) (.cells #[.int .i64 0, .int .i64 0, .int .i64 0, .int .i64 0] 71))
  obtain ⟨b3, hb3⟩ : ∃ b, Hid (b = w.heap.size + 1 + 1) := ⟨_, rfl⟩
  obtain ⟨b2, hb2⟩ : ∃ b, Hid (b = w.heap.size + 1) := ⟨_, rfl⟩
  obtain ⟨b1, hb1⟩ : ∃ b, Hid (b = w.heap.size) := ⟨_, rfl⟩
  have lz : Hid (w.heap.size ≤ b3 ∧ b1 < b3 ∧ b2 < b3) := by unfold Hid; rw [unhide hb3, unhide hb2, unhide hb1]; omega
  rw [← unhide hb3] at R3
  rw [← unhide hb2] at R2
  rw [← unhide hb1] at R1
  rw [← unhide hb3, ← unhide hb2, ← unhide hb1]
  generalize ((w.alloc (.cells #[.int .i64 r, .int .i64 g, .int .i64 b, .int .i64 a] 71)).alloc (.cells #[.int .i64 r2, .int .i64 g2, .int .i64 b2', .int .i64 a2] 71)).alloc (.cells #[.int .i64 0, .int .i64 0, .int .i64 0, .int .i64 0] 71) = W at R1 R2 R3 HB ⊢
  clear hb3 hb2 hb1
  go_wp2_with fail
  go_fit (unhide EO _)
  rintro e w1 ⟨rfl, hb⟩
  replace R1 := hide (row_next hb (unhide R1))
  replace R2 := hide (row_next hb (unhide R2))
  replace R3 := hide (row_next hb (unhide R3))
  replace HB := hide (below_two (unhide HB) hb)
  clear hb
  go_upto_region 2 with fail
  have R4 := hide (new_row w1 (.cells #[.func (.func 123) #[] #[]] 115))
  replace R1 := hide (old_row (.cells #[.func (.func 123) #[] #[]] 115) (unhide R1))
  replace R2 := hide (old_row (.cells #[.func (.func 123) #[] #[]] 115) (unhide R2))
  replace R3 := hide (old_row (.cells #[.func (.func 123) #[] #[]] 115) (unhide R3))
  replace HB := hide (below_two (unhide HB) (al1_below _ (.cells #[.func (.func 123) #[] #[]] 115)))
  obtain ⟨b4, hb4⟩ : ∃ b, Hid (b = w1.heap.size) := ⟨_, rfl⟩
  rw [← unhide hb4] at R4
  rw [← unhide hb4]
  generalize w1.alloc (.cells #[.func (.func 123) #[] #[]] 115) = V at R1 R2 R3 R4 HB ⊢
  clear hb4
  obtain ⟨q0, q1, q2, q3⟩ := row4 (unhide R1)
  obtain ⟨d0, d1, d2, d3⟩ := row4 (unhide R2)
  obtain ⟨e0, e1, e2, e3⟩ := row4 (unhide R3)
  obtain ⟨f0, f1, f2, f3⟩ := free4 (unhide R3)
  go_wp2_with fail
  go_fit (unhide ES _)
  rintro e w2 ⟨rfl, hb⟩
  replace R1 := hide (row_next hb (unhide R1))
  replace R2 := hide (row_next hb (unhide R2))
  replace R3 := hide (row_next hb (unhide R3))
  replace R4 := hide (row_next hb (unhide R4))
  replace HB := hide (below_two (unhide HB) hb)
  clear hb q0 q1 q2 q3 d0 d1 d2 d3 e0 e1 e2 e3 f0 f1 f2 f3
  obtain ⟨q0, q1, q2, q3⟩ := row4 (unhide R1)
  obtain ⟨d0, d1, d2, d3⟩ := row4 (unhide R2)
  obtain ⟨e0, e1, e2, e3⟩ := row4 (unhide R3)
  obtain ⟨f0, f1, f2, f3⟩ := free4 (unhide R3)
  cases X with
  | false =>
    have hC := hide (show C = ⟨r2, g2, b2', a2⟩ by rw [unhide hH]; exact if_neg (fun e => absurd e.1 (by decide)))
    go_wp2_with fail
    refine bodyPost_ret (v := .agg #[.int .i64 r2, .int .i64 g2, .int .i64 b2', .int .i64 a2]) (by simp [results, Try.results47, go_sem, e0, e1, e2, e3]) rfl ⟨by rw [unhide hC], ?_⟩
    exact below_put4 (unhide HB) (unhide lz).1 _ _ _ _
  | true =>
  go_wp2_with fail
  go_fit (unhide ED _)
  rintro e w3 ⟨rfl, hb⟩
  replace R1 := hide (row_next hb (unhide R1))
  replace R2 := hide (row_next hb (unhide R2))
  replace R3 := hide (row_next hb (unhide R3))
  replace R4 := hide (row_next hb (unhide R4))
  replace HB := hide (below_two (unhide HB) hb)
  clear hb q0 q1 q2 q3 d0 d1 d2 d3 e0 e1 e2 e3 f0 f1 f2 f3
  obtain ⟨q0, q1, q2, q3⟩ := row4 (unhide R1)
  obtain ⟨d0, d1, d2, d3⟩ := row4 (unhide R2)
  obtain ⟨e0, e1, e2, e3⟩ := row4 (unhide R3)
  obtain ⟨f0, f1, f2, f3⟩ := free4 (unhide R3)
  cases Y with
  | false =>
    have hC := hide (show C = ⟨r2, g2, b2', a2⟩ by rw [unhide hH]; exact if_neg (fun e => absurd e.2 (by decide)))
    go_wp2_with fail
    refine bodyPost_ret (v := .agg #[.int .i64 r2, .int .i64 g2, .int .i64 b2', .int .i64 a2]) (by simp [results, Try.results47, go_sem, e0, e1, e2, e3]) rfl ⟨by rw [unhide hC], ?_⟩
    exact below_put4 (unhide HB) (unhide lz).1 _ _ _ _
  | true =>
  have hC := hide (show C = ⟨blendI 3 r r2 a a2, blendI 3 g g2 a a2, blendI 3 b b2' a a2, blendI 3 a a2 a a2⟩ by rw [unhide hH]; exact if_pos ⟨by trivial, by trivial⟩)
  obtain ⟨s0, s1, s2, s3⟩ := unhide hok (by trivial)
  obtain ⟨t0, t1, t2, t3⟩ := unhide hok2 (by trivial)
  have EE := hide (fun p ps pd => implEachPart_blend p ps pd r g b a r2 g2 b2' a2 (blendI 3 r r2 a a2) (blendI 3 g g2 a a2) (blendI 3 b b2' a a2) (blendI 3 a a2 a a2) (fun u => MixAt u p ps pd (.func (.func 123) #[] #[]) r g b a r2 g2 b2' a2) (fun u u' j hb => j.next hb)
    (fun u j => implMix_screen p ps pd r r2 r g b a r2 g2 b2' a2 s0 t0 s3 t3 u j) (fun u j => implMix_screen p ps pd g g2 r g b a r2 g2 b2' a2 s1 t1 s3 t3 u j) (fun u j => implMix_screen p ps pd b b2' r g b a r2 g2 b2' a2 s2 t2 s3 t3 u j) (fun u j => implMix_screen p ps pd a a2 r g b a r2 g2 b2' a2 s3 t3 s3 t3 u j))
  generalize blendI 3 r r2 a a2 = m0 at EE hC
  generalize blendI 3 g g2 a a2 = m1 at EE hC
  generalize blendI 3 b b2' a a2 = m2 at EE hC
  generalize blendI 3 a a2 a a2 = m3 at EE hC
  clear s0 s1 s2 s3 t0 t1 t2 t3 hok hok2 hH ES ED EO
  go_wp2_with fail
  go_fit (unhide EE _ _ _ _ ⟨cell_lone (unhide R4), unhide R1, unhide R2⟩)
  rintro e w4 ⟨rfl, hb⟩
  replace R1 := hide (row_next hb (unhide R1))
  replace R2 := hide (row_next hb (unhide R2))
  replace R3 := hide (row_next hb (unhide R3))
  replace R4 := hide (row_next hb (unhide R4))
  replace HB := hide (below_two (unhide HB) hb)
  clear hb q0 q1 q2 q3 d0 d1 d2 d3 e0 e1 e2 e3 f0 f1 f2 f3
  obtain ⟨q0, q1, q2, q3⟩ := row4 (unhide R1)
  obtain ⟨d0, d1, d2, d3⟩ := row4 (unhide R2)
  obtain ⟨e0, e1, e2, e3⟩ := row4 (unhide R3)
  obtain ⟨f0, f1, f2, f3⟩ := free4 (unhide R3)
  go_wp2_with fail
  refine bodyPost_ret (v := .agg #[.int .i64 m0, .int .i64 m1, .int .i64 m2, .int .i64 m3]) (by simp [results, Try.results47, go_sem, e0, e1, e2, e3]) rfl ⟨by rw [unhide hC], ?_⟩
  exact below_put4 (unhide HB) (unhide lz).1 _ _ _ _

set_option maxHeartbeats 8000000 in
set_option maxRecDepth 100000 in
theorem implBlend_plus (r g b a r2 g2 b2' a2 : Int) (w : World) :
    Calls Try.prog 47 #[.int .i64 4, .agg #[.int .i64 r, .int .i64 g, .int .i64 b, .int .i64 a], .agg #[.int .i64 r2, .int .i64 g2, .int .i64 b2', .int .i64 a2]] w fun e w' => e = .returned (.agg #[.int .i64 ((blendC 4 ⟨r, g, b, a⟩ ⟨r2, g2, b2', a2⟩).x0), .int .i64 ((blendC 4 ⟨r, g, b, a⟩ ⟨r2, g2, b2', a2⟩).y0), .int .i64 ((blendC 4 ⟨r, g, b, a⟩ ⟨r2, g2, b2', a2⟩).x1), .int .i64 ((blendC 4 ⟨r, g, b, a⟩ ⟨r2, g2, b2', a2⟩).y1)]) ∧ Below w.heap.size w w' := by
  have EO := hide (implBlendOf_plus)
  have ES := hide (implLaidOk_any r g b a)
  have ED := hide (implLaidOk_any r2 g2 b2' a2)
  have hH : Hid (blendC 4 ⟨r, g, b, a⟩ ⟨r2, g2, b2', a2⟩ = if laidOkB ⟨r, g, b, a⟩ = true ∧ laidOkB ⟨r2, g2, b2', a2⟩ = true then ⟨blendI 4 r r2 a a2, blendI 4 g g2 a a2, blendI 4 b b2' a a2, blendI 4 a a2 a a2⟩ else ⟨r2, g2, b2', a2⟩) := rfl
  have hok : Hid (laidOkB ⟨r, g, b, a⟩ = true → ((0 ≤ r ∧ r ≤ 255) ∧ (0 ≤ g ∧ g ≤ 255) ∧ (0 ≤ b ∧ b ≤ 255) ∧ (0 ≤ a ∧ a ≤ 255))) := fun h => by
    have h1 := laidOk_iff.1 h
    dsimp only at h1
    omega
  have hok2 : Hid (laidOkB ⟨r2, g2, b2', a2⟩ = true → ((0 ≤ r2 ∧ r2 ≤ 255) ∧ (0 ≤ g2 ∧ g2 ≤ 255) ∧ (0 ≤ b2' ∧ b2' ≤ 255) ∧ (0 ≤ a2 ∧ a2 ≤ 255))) := fun h => by
    have h1 := laidOk_iff.1 h
    dsimp only at h1
    omega
  generalize laidOkB ⟨r, g, b, a⟩ = X at ES hH hok
  generalize laidOkB ⟨r2, g2, b2', a2⟩ = Y at ED hH hok2
  generalize blendC 4 ⟨r, g, b, a⟩ ⟨r2, g2, b2', a2⟩ = C at hH ⊢
  go_enter Try.func47, Try.ntmps47
  go_upto_region 1 with fail
  have R1 := hide (al3_0 w (.cells #[.int .i64 r, .int .i64 g, .int .i64 b, .int .i64 a] 71) (.cells #[.int .i64 r2, .int .i64 g2, .int .i64 b2', .int .i64 a2] 71) (.cells #[.int .i64 0, .int .i64 0, .int .i64 0, .int .i64 0] 71))
  have R2 := hide (al3_1 w (.cells #[.int .i64 r, .int .i64 g, .int .i64 b, .int .i64 a] 71) (.cells #[.int .i64 r2, .int .i64 g2, .int .i64 b2', .int .i64 a2] 71) (.cells #[.int .i64 0, .int .i64 0, .int .i64 0, .int .i64 0] 71))
  have R3 := hide (al3_2 w (.cells #[.int .i64 r, .int .i64 g, .int .i64 b, .int .i64 a] 71) (.cells #[.int .i64 r2, .int .i64 g2, .int .i64 b2', .int .i64 a2] 71) (.cells #[.int .i64 0, .int .i64 0, .int .i64 0, .int .i64 0] 71))
  have HB := hide (al3_below w (.cells #[.int .i64 r, .int .i64 g, .int .i64 b, .int .i64 a] 71) (.cells #[.int .i64 r2, .int .i64 g2, .int .i64 b2', .int .i64 a2] 71) (.cells #[.int .i64 0, .int .i64 0, .int .i64 0, .int .i64 0] 71))
  obtain ⟨b3, hb3⟩ : ∃ b, Hid (b = w.heap.size + 1 + 1) := ⟨_, rfl⟩
  obtain ⟨b2, hb2⟩ : ∃ b, Hid (b = w.heap.size + 1) := ⟨_, rfl⟩
  obtain ⟨b1, hb1⟩ : ∃ b, Hid (b = w.heap.size) := ⟨_, rfl⟩
  have lz : Hid (w.heap.size ≤ b3 ∧ b1 < b3 ∧ b2 < b3) := by unfold Hid; rw [unhide hb3, unhide hb2, unhide hb1]; omega
  rw [← unhide hb3] at R3
  rw [← unhide hb2] at R2
  rw [← unhide hb1] at R1
  rw [← unhide hb3, ← unhide hb2, ← unhide hb1]
  generalize ((w.alloc (.cells #[.int .i64 r, .int .i64 g, .int .i64 b, .int .i64 a] 71)).alloc (.cells #[.int .i64 r2, .int .i64 g2, .int .i64 b2', .int .i64 a2] 71)).alloc (.cells #[.int .i64 0, .int .i64 0, .int .i64 0, .int .i64 0] 71) = W at R1 R2 R3 HB ⊢
  clear hb3 hb2 hb1
  go_wp2_with fail
  go_fit (unhide EO _)
  rintro e w1 ⟨rfl, hb⟩
  replace R1 := hide (row_next hb (unhide R1))
  replace R2 := hide (row_next hb (unhide R2))
  replace R3 := hide (row_next hb (unhide R3))
  replace HB := hide (below_two (unhide HB) hb)
  clear hb
  go_upto_region 2 with fail
  have R4 := hide (new_row w1 (.cells #[.func (.func 124) #[] #[]] 115))
  replace R1 := hide (old_row (.cells #[.func (.func 124) #[] #[]] 115) (unhide R1))
  replace R2 := hide (old_row (.cells #[.func (.func 124) #[] #[]] 115) (unhide R2))
  replace R3 := hide (old_row (.cells #[.func (.func 124) #[] #[]] 115) (unhide R3))
  replace HB := hide (below_two (unhide HB) (al1_below _ (.cells #[.func (.func 124) #[] #[]] 115)))
  obtain ⟨b4, hb4⟩ : ∃ b, Hid (b = w1.heap.size) := ⟨_, rfl⟩
  rw [← unhide hb4] at R4
  rw [← unhide hb4]
  generalize w1.alloc (.cells #[.func (.func 124) #[] #[]] 115) = V at R1 R2 R3 R4 HB ⊢
  clear hb4
  obtain ⟨q0, q1, q2, q3⟩ := row4 (unhide R1)
  obtain ⟨d0, d1, d2, d3⟩ := row4 (unhide R2)
  obtain ⟨e0, e1, e2, e3⟩ := row4 (unhide R3)
  obtain ⟨f0, f1, f2, f3⟩ := free4 (unhide R3)
  go_wp2_with fail
  go_fit (unhide ES _)
  rintro e w2 ⟨rfl, hb⟩
  replace R1 := hide (row_next hb (unhide R1))
  replace R2 := hide (row_next hb (unhide R2))
  replace R3 := hide (row_next hb (unhide R3))
  replace R4 := hide (row_next hb (unhide R4))
  replace HB := hide (below_two (unhide HB) hb)
  clear hb q0 q1 q2 q3 d0 d1 d2 d3 e0 e1 e2 e3 f0 f1 f2 f3
  obtain ⟨q0, q1, q2, q3⟩ := row4 (unhide R1)
  obtain ⟨d0, d1, d2, d3⟩ := row4 (unhide R2)
  obtain ⟨e0, e1, e2, e3⟩ := row4 (unhide R3)
  obtain ⟨f0, f1, f2, f3⟩ := free4 (unhide R3)
  cases X with
  | false =>
    have hC := hide (show C = ⟨r2, g2, b2', a2⟩ by rw [unhide hH]; exact if_neg (fun e => absurd e.1 (by decide)))
    go_wp2_with fail
    refine bodyPost_ret (v := .agg #[.int .i64 r2, .int .i64 g2, .int .i64 b2', .int .i64 a2]) (by simp [results, Try.results47, go_sem, e0, e1, e2, e3]) rfl ⟨by rw [unhide hC], ?_⟩
    exact below_put4 (unhide HB) (unhide lz).1 _ _ _ _
  | true =>
  go_wp2_with fail
  go_fit (unhide ED _)
  rintro e w3 ⟨rfl, hb⟩
  replace R1 := hide (row_next hb (unhide R1))
  replace R2 := hide (row_next hb (unhide R2))
  replace R3 := hide (row_next hb (unhide R3))
  replace R4 := hide (row_next hb (unhide R4))
  replace HB := hide (below_two (unhide HB) hb)
  clear hb q0 q1 q2 q3 d0 d1 d2 d3 e0 e1 e2 e3 f0 f1 f2 f3
  obtain ⟨q0, q1, q2, q3⟩ := row4 (unhide R1)
  obtain ⟨d0, d1, d2, d3⟩ := row4 (unhide R2)
  obtain ⟨e0, e1, e2, e3⟩ := row4 (unhide R3)
  obtain ⟨f0, f1, f2, f3⟩ := free4 (unhide R3)
  cases Y with
  | false =>
    have hC := hide (show C = ⟨r2, g2, b2', a2⟩ by rw [unhide hH]; exact if_neg (fun e => absurd e.2 (by decide)))
    go_wp2_with fail
    refine bodyPost_ret (v := .agg #[.int .i64 r2, .int .i64 g2, .int .i64 b2', .int .i64 a2]) (by simp [results, Try.results47, go_sem, e0, e1, e2, e3]) rfl ⟨by rw [unhide hC], ?_⟩
    exact below_put4 (unhide HB) (unhide lz).1 _ _ _ _
  | true =>
  have hC := hide (show C = ⟨blendI 4 r r2 a a2, blendI 4 g g2 a a2, blendI 4 b b2' a a2, blendI 4 a a2 a a2⟩ by rw [unhide hH]; exact if_pos ⟨by trivial, by trivial⟩)
  obtain ⟨s0, s1, s2, s3⟩ := unhide hok (by trivial)
  obtain ⟨t0, t1, t2, t3⟩ := unhide hok2 (by trivial)
  have EE := hide (fun p ps pd => implEachPart_blend p ps pd r g b a r2 g2 b2' a2 (blendI 4 r r2 a a2) (blendI 4 g g2 a a2) (blendI 4 b b2' a a2) (blendI 4 a a2 a a2) (fun u => MixAt u p ps pd (.func (.func 124) #[] #[]) r g b a r2 g2 b2' a2) (fun u u' j hb => j.next hb)
    (fun u j => implMix_plus p ps pd r r2 r g b a r2 g2 b2' a2 s0 t0 s3 t3 u j) (fun u j => implMix_plus p ps pd g g2 r g b a r2 g2 b2' a2 s1 t1 s3 t3 u j) (fun u j => implMix_plus p ps pd b b2' r g b a r2 g2 b2' a2 s2 t2 s3 t3 u j) (fun u j => implMix_plus p ps pd a a2 r g b a r2 g2 b2' a2 s3 t3 s3 t3 u j))
  generalize blendI 4 r r2 a a2 = m0 at EE hC
  generalize blendI 4 g g2 a a2 = m1 at EE hC
  generalize blendI 4 b b2' a a2 = m2 at EE hC
  generalize blendI 4 a a2 a a2 = m3 at EE hC
  clear s0 s1 s2 s3 t0 t1 t2 t3 hok hok2 hH ES ED EO
  go_wp2_with fail
  go_fit (unhide EE _ _ _ _ ⟨cell_lone (unhide R4), unhide R1, unhide R2⟩)
  rintro e w4 ⟨rfl, hb⟩
  replace R1 := hide (row_next hb (unhide R1))
  replace R2 := hide (row_next hb (unhide R2))
  replace R3 := hide (row_next hb (unhide R3))
  replace R4 := hide (row_next hb (unhide R4))
  replace HB := hide (below_two (unhide HB) hb)
  clear hb q0 q1 q2 q3 d0 d1 d2 d3 e0 e1 e2 e3 f0 f1 f2 f3
  obtain ⟨q0, q1, q2, q3⟩ := row4 (unhide R1)
  obtain ⟨d0, d1, d2, d3⟩ := row4 (unhide R2)
  obtain ⟨e0, e1, e2, e3⟩ := row4 (unhide R3)
  obtain ⟨f0, f1, f2, f3⟩ := free4 (unhide R3)
  go_wp2_with fail
  refine bodyPost_ret (v := .agg #[.int .i64 m0, .int .i64 m1, .int .i64 m2, .int .i64 m3]) (by simp [results, Try.results47, go_sem, e0, e1, e2, e3]) rfl ⟨by rw [unhide hC], ?_⟩
  exact below_put4 (unhide HB) (unhide lz).1 _ _ _ _

set_option maxHeartbeats 8000000 in
set_option maxRecDepth 100000 in
theorem implBlend_out (r g b a r2 g2 b2' a2 : Int) (w : World) :
    Calls Try.prog 47 #[.int .i64 5, .agg #[.int .i64 r, .int .i64 g, .int .i64 b, .int .i64 a], .agg #[.int .i64 r2, .int .i64 g2, .int .i64 b2', .int .i64 a2]] w fun e w' => e = .returned (.agg #[.int .i64 ((blendC 5 ⟨r, g, b, a⟩ ⟨r2, g2, b2', a2⟩).x0), .int .i64 ((blendC 5 ⟨r, g, b, a⟩ ⟨r2, g2, b2', a2⟩).y0), .int .i64 ((blendC 5 ⟨r, g, b, a⟩ ⟨r2, g2, b2', a2⟩).x1), .int .i64 ((blendC 5 ⟨r, g, b, a⟩ ⟨r2, g2, b2', a2⟩).y1)]) ∧ Below w.heap.size w w' := by
  have EO := hide (implBlendOf_out)
  have ES := hide (implLaidOk_any r g b a)
  have ED := hide (implLaidOk_any r2 g2 b2' a2)
  have hH : Hid (blendC 5 ⟨r, g, b, a⟩ ⟨r2, g2, b2', a2⟩ = if laidOkB ⟨r, g, b, a⟩ = true ∧ laidOkB ⟨r2, g2, b2', a2⟩ = true then ⟨blendI 5 r r2 a a2, blendI 5 g g2 a a2, blendI 5 b b2' a a2, blendI 5 a a2 a a2⟩ else ⟨r2, g2, b2', a2⟩) := rfl
  have hok : Hid (laidOkB ⟨r, g, b, a⟩ = true → ((0 ≤ r ∧ r ≤ 255) ∧ (0 ≤ g ∧ g ≤ 255) ∧ (0 ≤ b ∧ b ≤ 255) ∧ (0 ≤ a ∧ a ≤ 255))) := fun h => by
    have h1 := laidOk_iff.1 h
    dsimp only at h1
    omega
  have hok2 : Hid (laidOkB ⟨r2, g2, b2', a2⟩ = true → ((0 ≤ r2 ∧ r2 ≤ 255) ∧ (0 ≤ g2 ∧ g2 ≤ 255) ∧ (0 ≤ b2' ∧ b2' ≤ 255) ∧ (0 ≤ a2 ∧ a2 ≤ 255))) := fun h => by
    have h1 := laidOk_iff.1 h
    dsimp only at h1
    omega
  generalize laidOkB ⟨r, g, b, a⟩ = X at ES hH hok
  generalize laidOkB ⟨r2, g2, b2', a2⟩ = Y at ED hH hok2
  generalize blendC 5 ⟨r, g, b, a⟩ ⟨r2, g2, b2', a2⟩ = C at hH ⊢
  go_enter Try.func47, Try.ntmps47
  go_upto_region 1 with fail
  have R1 := hide (al3_0 w (.cells #[.int .i64 r, .int .i64 g, .int .i64 b, .int .i64 a] 71) (.cells #[.int .i64 r2, .int .i64 g2, .int .i64 b2', .int .i64 a2] 71) (.cells #[.int .i64 0, .int .i64 0, .int .i64 0, .int .i64 0] 71))
  have R2 := hide (al3_1 w (.cells #[.int .i64 r, .int .i64 g, .int .i64 b, .int .i64 a] 71) (.cells #[.int .i64 r2, .int .i64 g2, .int .i64 b2', .int .i64 a2] 71) (.cells #[.int .i64 0, .int .i64 0, .int .i64 0, .int .i64 0] 71))
  have R3 := hide (al3_2 w (.cells #[.int .i64 r, .int .i64 g, .int .i64 b, .int .i64 a] 71) (.cells #[.int .i64 r2, .int .i64 g2, .int .i64 b2', .int .i64 a2] 71) (.cells #[.int .i64 0, .int .i64 0, .int .i64 0, .int .i64 0] 71))
  have HB := hide (al3_below w (.cells #[.int .i64 r, .int .i64 g, .int .i64 b, .int .i64 a] 71) (.cells #[.int .i64 r2, .int .i64 g2, .int .i64 b2', .int .i64 a2] 71) (.cells #[.int .i64 0, .int .i64 0, .int .i64 0, .int .i64 0] 71))
  obtain ⟨b3, hb3⟩ : ∃ b, Hid (b = w.heap.size + 1 + 1) := ⟨_, rfl⟩
  obtain ⟨b2, hb2⟩ : ∃ b, Hid (b = w.heap.size + 1) := ⟨_, rfl⟩
  obtain ⟨b1, hb1⟩ : ∃ b, Hid (b = w.heap.size) := ⟨_, rfl⟩
  have lz : Hid (w.heap.size ≤ b3 ∧ b1 < b3 ∧ b2 < b3) := by unfold Hid; rw [unhide hb3, unhide hb2, unhide hb1]; omega
  rw [← unhide hb3] at R3
  rw [← unhide hb2] at R2
  rw [← unhide hb1] at R1
  rw [← unhide hb3, ← unhide hb2, ← unhide hb1]
  generalize ((w.alloc (.cells #[.int .i64 r, .int .i64 g, .int .i64 b, .int .i64 a] 71)).alloc (.cells #[.int .i64 r2, .int .i64 g2, .int .i64 b2', .int .i64 a2] 71)).alloc (.cells #[.int .i64 0, .int .i64 0, .int .i64 0, .int .i64 0] 71) = W at R1 R2 R3 HB ⊢
  clear hb3 hb2 hb1
  go_wp2_with fail
  go_fit (unhide EO _)
  rintro e w1 ⟨rfl, hb⟩
  replace R1 := hide (row_next hb (unhide R1))
  replace R2 := hide (row_next hb (unhide R2))
  replace R3 := hide (row_next hb (unhide R3))
  replace HB := hide (below_two (unhide HB) hb)
  clear hb
  go_upto_region 2 with fail
  have R4 := hide (new_row w1 (.cells #[.func (.func 125) #[] #[]] 115))
  replace R1 := hide (old_row (.cells #[.func (.func 125) #[] #[]] 115) (unhide R1))
  replace R2 := hide (old_row (.cells #[.func (.func 125) #[] #[]] 115) (unhide R2))
  replace R3 := hide (old_row (.cells #[.func (.func 125) #[] #[]] 115) (unhide R3))
  replace HB := hide (below_two (unhide HB) (al1_below _ (.cells #[.func (.func 125) #[] #[]] 115)))
  obtain ⟨b4, hb4⟩ : ∃ b, Hid (b = w1.heap.size) := ⟨_, rfl⟩
  rw [← unhide hb4] at R4
  rw [← unhide hb4]
  generalize w1.alloc (.cells #[.func (.func 125) #[] #[]] 115) = V at R1 R2 R3 R4 HB ⊢
  clear hb4
  obtain ⟨q0, q1, q2, q3⟩ := row4 (unhide R1)
  obtain ⟨d0, d1, d2, d3⟩ := row4 (unhide R2)
  obtain ⟨e0, e1, e2, e3⟩ := row4 (unhide R3)
  obtain ⟨f0, f1, f2, f3⟩ := free4 (unhide R3)
  go_wp2_with fail
  go_fit (unhide ES _)
  rintro e w2 ⟨rfl, hb⟩
  replace R1 := hide (row_next hb (unhide R1))
  replace R2 := hide (row_next hb (unhide R2))
  replace R3 := hide (row_next hb (unhide R3))
  replace R4 := hide (row_next hb (unhide R4))
  replace HB := hide (below_two (unhide HB) hb)
  clear hb q0 q1 q2 q3 d0 d1 d2 d3 e0 e1 e2 e3 f0 f1 f2 f3
  obtain ⟨q0, q1, q2, q3⟩ := row4 (unhide R1)
  obtain ⟨d0, d1, d2, d3⟩ := row4 (unhide R2)
  obtain ⟨e0, e1, e2, e3⟩ := row4 (unhide R3)
  obtain ⟨f0, f1, f2, f3⟩ := free4 (unhide R3)
  cases X with
  | false =>
    have hC := hide (show C = ⟨r2, g2, b2', a2⟩ by rw [unhide hH]; exact if_neg (fun e => absurd e.1 (by decide)))
    go_wp2_with fail
    refine bodyPost_ret (v := .agg #[.int .i64 r2, .int .i64 g2, .int .i64 b2', .int .i64 a2]) (by simp [results, Try.results47, go_sem, e0, e1, e2, e3]) rfl ⟨by rw [unhide hC], ?_⟩
    exact below_put4 (unhide HB) (unhide lz).1 _ _ _ _
  | true =>
  go_wp2_with fail
  go_fit (unhide ED _)
  rintro e w3 ⟨rfl, hb⟩
  replace R1 := hide (row_next hb (unhide R1))
  replace R2 := hide (row_next hb (unhide R2))
  replace R3 := hide (row_next hb (unhide R3))
  replace R4 := hide (row_next hb (unhide R4))
  replace HB := hide (below_two (unhide HB) hb)
  clear hb q0 q1 q2 q3 d0 d1 d2 d3 e0 e1 e2 e3 f0 f1 f2 f3
  obtain ⟨q0, q1, q2, q3⟩ := row4 (unhide R1)
  obtain ⟨d0, d1, d2, d3⟩ := row4 (unhide R2)
  obtain ⟨e0, e1, e2, e3⟩ := row4 (unhide R3)
  obtain ⟨f0, f1, f2, f3⟩ := free4 (unhide R3)
  cases Y with
  | false =>
    have hC := hide (show C = ⟨r2, g2, b2', a2⟩ by rw [unhide hH]; exact if_neg (fun e => absurd e.2 (by decide)))
    go_wp2_with fail
    refine bodyPost_ret (v := .agg #[.int .i64 r2, .int .i64 g2, .int .i64 b2', .int .i64 a2]) (by simp [results, Try.results47, go_sem, e0, e1, e2, e3]) rfl ⟨by rw [unhide hC], ?_⟩
    exact below_put4 (unhide HB) (unhide lz).1 _ _ _ _
  | true =>
  have hC := hide (show C = ⟨blendI 5 r r2 a a2, blendI 5 g g2 a a2, blendI 5 b b2' a a2, blendI 5 a a2 a a2⟩ by rw [unhide hH]; exact if_pos ⟨by trivial, by trivial⟩)
  obtain ⟨s0, s1, s2, s3⟩ := unhide hok (by trivial)
  obtain ⟨t0, t1, t2, t3⟩ := unhide hok2 (by trivial)
  have EE := hide (fun p ps pd => implEachPart_blend p ps pd r g b a r2 g2 b2' a2 (blendI 5 r r2 a a2) (blendI 5 g g2 a a2) (blendI 5 b b2' a a2) (blendI 5 a a2 a a2) (fun u => MixAt u p ps pd (.func (.func 125) #[] #[]) r g b a r2 g2 b2' a2) (fun u u' j hb => j.next hb)
    (fun u j => implMix_out p ps pd r r2 r g b a r2 g2 b2' a2 s0 t0 s3 t3 u j) (fun u j => implMix_out p ps pd g g2 r g b a r2 g2 b2' a2 s1 t1 s3 t3 u j) (fun u j => implMix_out p ps pd b b2' r g b a r2 g2 b2' a2 s2 t2 s3 t3 u j) (fun u j => implMix_out p ps pd a a2 r g b a r2 g2 b2' a2 s3 t3 s3 t3 u j))
  generalize blendI 5 r r2 a a2 = m0 at EE hC
  generalize blendI 5 g g2 a a2 = m1 at EE hC
  generalize blendI 5 b b2' a a2 = m2 at EE hC
  generalize blendI 5 a a2 a a2 = m3 at EE hC
  clear s0 s1 s2 s3 t0 t1 t2 t3 hok hok2 hH ES ED EO
  go_wp2_with fail
  go_fit (unhide EE _ _ _ _ ⟨cell_lone (unhide R4), unhide R1, unhide R2⟩)
  rintro e w4 ⟨rfl, hb⟩
  replace R1 := hide (row_next hb (unhide R1))
  replace R2 := hide (row_next hb (unhide R2))
  replace R3 := hide (row_next hb (unhide R3))
  replace R4 := hide (row_next hb (unhide R4))
  replace HB := hide (below_two (unhide HB) hb)
  clear hb q0 q1 q2 q3 d0 d1 d2 d3 e0 e1 e2 e3 f0 f1 f2 f3
  obtain ⟨q0, q1, q2, q3⟩ := row4 (unhide R1)
  obtain ⟨d0, d1, d2, d3⟩ := row4 (unhide R2)
  obtain ⟨e0, e1, e2, e3⟩ := row4 (unhide R3)
  obtain ⟨f0, f1, f2, f3⟩ := free4 (unhide R3)
  go_wp2_with fail
  refine bodyPost_ret (v := .agg #[.int .i64 m0, .int .i64 m1, .int .i64 m2, .int .i64 m3]) (by simp [results, Try.results47, go_sem, e0, e1, e2, e3]) rfl ⟨by rw [unhide hC], ?_⟩
  exact below_put4 (unhide HB) (unhide lz).1 _ _ _ _

theorem implBlend_any (m r g b a r2 g2 b2 a2 : Int) (w : World) :
    Calls Try.prog 47 #[.int .i64 m, .agg #[.int .i64 r, .int .i64 g, .int .i64 b, .int .i64 a], .agg #[.int .i64 r2, .int .i64 g2, .int .i64 b2, .int .i64 a2]] w fun e w' => e = .returned (.agg #[.int .i64 ((blendC m ⟨r, g, b, a⟩ ⟨r2, g2, b2, a2⟩).x0), .int .i64 ((blendC m ⟨r, g, b, a⟩ ⟨r2, g2, b2, a2⟩).y0), .int .i64 ((blendC m ⟨r, g, b, a⟩ ⟨r2, g2, b2, a2⟩).x1), .int .i64 ((blendC m ⟨r, g, b, a⟩ ⟨r2, g2, b2, a2⟩).y1)]) ∧ Below w.heap.size w w' := by
  by_cases hm : m < 1 ∨ 5 < m
  · exact implBlend_none m hm r g b a r2 g2 b2 a2 w
  · obtain rfl | rfl | rfl | rfl | rfl : m = 1 ∨ m = 2 ∨ m = 3 ∨ m = 4 ∨ m = 5 := by omega
    · exact implBlend_over r g b a r2 g2 b2 a2 w
    · exact implBlend_multiply r g b a r2 g2 b2 a2 w
    · exact implBlend_screen r g b a r2 g2 b2 a2 w
    · exact implBlend_plus r g b a r2 g2 b2 a2 w
    · exact implBlend_out r g b a r2 g2 b2 a2 w
end Go.Proofs.Ytmomgbnhildpdab
