/-
  The specification's surfaces.
-/
import Derived.Test.YtngnleoggblinaaSurfP
import Derived.Test.YtngnleoggblinaaSurfL
import Derived.Test.YtngnleoggblinaaBlendS
namespace Go.Proofs.Ytngnleoggblinaa
open Go.RowKit
set_option linter.unusedVariables false

set_option maxHeartbeats 4000000 in
set_option maxRecDepth 100000 in
theorem specSurfaceOk_any (x y : Int) (f : Nat → B4) (ao : Option Addr) (n cp : Nat) (hn : n ≤ 1048576) (w : World) (P : ∀ i, i < n → ClAt w ao i (f i)) :
    Calls Try.prog 11 #[.agg #[.int .i64 x, .int .i64 y, .slice ao n cp]] w fun r w' => r = .returned (.bool (surfOkB x y n f)) ∧ Below w.heap.size w w' := by
  have EX := hide (l01In_any x 1 12)
  have EY := hide (l01In_any y 1 12)
  replace P := hide P
  have hyes : Hid (SOk x y n f → surfOkB x y n f = true) := fun h => surfOk_iff.2 h
  have hno : Hid (¬ SOk x y n f → surfOkB x y n f = false) := fun h => surfOk_no h
  generalize surfOkB x y n f = X at hyes hno ⊢
  have hS : Hid (SOk x y n f ↔ (inB x 1 12 = true) ∧ (inB y 1 12 = true) ∧ (n : Int) = x * y ∧ ∀ i, i < n → laidOkB (f i) = true) := by unfold Hid SOk; rw [inB_true, inB_true]
  have hpr : Hid (inB x 1 12 = true → inB y 1 12 = true → IntKind.i64.wrap (x * y) = x * y) := fun h1 h2 => IntWalk.i64_in _ (by have := side_prod (inB_true.1 h1) (inB_true.1 h2); omega)
  generalize SOk x y n f = M at hyes hno hS
  generalize inB x 1 12 = ix at EX hS hpr
  generalize inB y 1 12 = iy at EY hS hpr
  go_enter Try.func11, Try.ntmps11
  go_upto_region 1 with fail
  have R := hide (new_row w (.cells #[.int .i64 x, .int .i64 y, .slice ao n cp] 31))
  have HB := hide (al1_below w (.cells #[.int .i64 x, .int .i64 y, .slice ao n cp] 31))
  obtain ⟨b1, hb1⟩ : ∃ b, Hid (b = w.heap.size) := ⟨_, rfl⟩
  rw [← unhide hb1] at R
  rw [← unhide hb1]
  generalize w.alloc (.cells #[.int .i64 x, .int .i64 y, .slice ao n cp] 31) = W at R HB ⊢
  obtain ⟨r0, r1, r2⟩ := row3 (unhide R)
  go_wp2_with fail
  go_fit (unhide EX _)
  rintro r u1 ⟨rfl, rfl⟩
  cases ix with
  | false =>
    have hX := hide (unhide hno (fun h => by have := (unhide hS).1 h; cases this.1))
    go_wp2_with fail
    go_ret
    exact ⟨ret_bool (unhide hX).symm, unhide HB⟩
  | true =>
  go_wp2_with fail
  go_fit (unhide EY _)
  rintro r u1 ⟨rfl, rfl⟩
  cases iy with
  | false =>
    have hX := hide (unhide hno (fun h => by have := (unhide hS).1 h; cases this.2.1))
    go_wp2_with fail
    go_ret
    exact ⟨ret_bool (unhide hX).symm, unhide HB⟩
  | true =>
    have w3 := unhide hpr (by trivial) (by trivial)
    by_cases hq : (n : Int) = x * y
    · have hq1 := hide hq
      have hqb : ((n : Int) == x * y) = true := beq_iff_eq.2 hq
      rw [← hq] at w3
      go_upto_region 4 with fail
      go_wp2_with fail
      clear r0 r1 r2 w3 hqb hq
      go_loopw [3] (fun i u => ∃ k : Nat, k ≤ n ∧ i = .int .i64 k ∧ Hid (∀ j, j < k → laidOkB (f j) = true) ∧ Hid (Below w.heap.size w u) ∧ Hid (u.heap[b1]? = some (.cells #[.int .i64 x, .int .i64 y, .slice ao n cp] 31 (0, 0)))) (fun i _ => n - (intOf i).toNat)
      case atStart => exact ⟨0, Nat.zero_le _, rfl, fun j hj => absurd hj (by omega), HB, R⟩
      case round =>
        clear HB R
        obtain ⟨k, hk, rfl, HK, HB, R⟩ := hrel
        obtain ⟨r0, r1, r2⟩ := row3 (unhide R)
        by_cases hlt : k < n
        · have HP := (unhide P k hlt).next (unhide HB)
          obtain ⟨z, hz⟩ : ∃ z, Hid (f k = z) := ⟨_, rfl⟩
          rw [unhide hz] at HP
          obtain ⟨z0, z1, z2, z3⟩ := z
          obtain ⟨s0, o0, rfl, g0, g1, g2, g3⟩ := HP
          dsimp only at g0 g1 g2 g3
          have EI := hide (specLaidOk_any z0 z1 z2 z3)
          have hki : (k : Int) < (n : Int) := by omega
          cases hi : laidOkB ⟨z0, z1, z2, z3⟩ with
          | false =>
            rw [hi] at EI
            have hX := hide (unhide hno (fun h => by have := ((unhide hS).1 h).2.2.2 k hlt; rw [unhide hz, hi] at this; cases this))
            clear hi
            go_wp2_with fail
            go_fit (unhide EI _)
            rintro r u2 ⟨rfl, hb⟩
            replace HB := hide (below_two (unhide HB) hb)
            go_wp2_with fail
            go_ret
            exact ⟨ret_bool (unhide hX).symm, unhide HB⟩
          | true =>
            rw [hi] at EI
            have HK2 : Hid (∀ j, j < k + 1 → laidOkB (f j) = true) := cols_more (unhide HK) (by rw [unhide hz]; exact hi)
            clear hi
            go_wp2_with fail
            go_fit (unhide EI _)
            rintro r u2 ⟨rfl, hb⟩
            replace R := hide (row_next hb (unhide R))
            replace HB := hide (below_two (unhide HB) hb)
            clear hb r0 r1 r2 g0 g1 g2 g3
            go_wp2_with fail
            go_roundw
            case rel => exact ⟨k + 1, by omega, by go_num, HK2, HB, R⟩
            case measure => simp [intOf]; omega
        · have hke : k = n := by omega
          subst hke
          have hki : ¬ (k : Int) < (k : Int) := by omega
          have hX := hide (unhide hyes ((unhide hS).2 ⟨by trivial, by trivial, unhide hq1, unhide HK⟩))
          go_wp2_with fail
          go_ret
          exact ⟨ret_bool (unhide hX).symm, unhide HB⟩
    · have hX := hide (unhide hno (fun h => hq ((unhide hS).1 h).2.2.1))
      have hqb : ((n : Int) == x * y) = false := beq_eq_false_iff_ne.2 hq
      go_wp2_with fail
      go_ret
      exact ⟨ret_bool (unhide hX).symm, unhide HB⟩

/-- A call hands back a new surface and whether it is one. -/
def NewRes (w : World) (r : Ending) (w' : World) (x y : Int) : Prop :=
  ∃ p cp, r = .returned (.tuple #[.agg #[.int .i64 (newX x y), .int .i64 (newY x y), .slice p (newN x y) cp], .bool (newOkB x y)]) ∧ ColsV w' w.heap.size (.slice p (newN x y) cp) (newN x y) (fun _ => clear4) ∧ Below w.heap.size w w'

theorem made_clear (N : Nat) : BxAt (madeCells (Value.agg #[.int .i64 0, .int .i64 0, .int .i64 0, .int .i64 0]).cells (N * 4)).toList (fun _ => clear4) N := by
  intro j hj
  have h0 : j * 4 < N * 4 := by omega
  have h1 : j * 4 + 1 < N * 4 := by omega
  have h2 : j * 4 + 2 < N * 4 := by omega
  have h3 : j * 4 + 3 < N * 4 := by omega
  have e0 : j * 4 % 4 = 0 := by omega
  have e1 : (j * 4 + 1) % 4 = 1 := by omega
  have e2 : (j * 4 + 2) % 4 = 2 := by omega
  have e3 : (j * 4 + 3) % 4 = 3 := by omega
  simp [madeCells, Value.cells, h0, h1, h2, h3, e0, e1, e2, e3, clear4]
theorem cols_none (w : World) (base : Nat) (f : Nat → B4) : ColsV w base (.slice none 0 0) 0 f := ⟨[], World.ownsRow_nil _ _ _ _, fun i hi => absurd hi (by omega)⟩

set_option maxHeartbeats 4000000 in
set_option maxRecDepth 100000 in
theorem specPixelAt_any (x y : Int) (f : Nat → B4) (ao : Option Addr) (n cp : Nat) (hn : n ≤ 1048576) (px py : Int) (w : World) (P : ∀ i, i < n → ClAt w ao i (f i)) :
    Calls Try.prog 5 #[.agg #[.int .i64 x, .int .i64 y, .slice ao n cp], .int .i64 px, .int .i64 py] w fun r w' => r = .returned (.agg #[.int .i64 ((pixC x y n f px py).x0), .int .i64 ((pixC x y n f px py).y0), .int .i64 ((pixC x y n f px py).x1), .int .i64 ((pixC x y n f px py).y1)]) ∧ Below w.heap.size w w' := by
  have ES := hide (fun u => specSurfaceOk_any x y f ao n cp hn u)
  have EX := hide (l01In_any px 0 (x - 1))
  have EY := hide (l01In_any py 0 (y - 1))
  replace P := hide P
  obtain ⟨C, hC⟩ : ∃ C, Hid (pixC x y n f px py = C) := ⟨_, rfl⟩
  rw [unhide hC]
  have hno : Hid (¬ (surfOkB x y n f = true ∧ inB px 0 (x - 1) = true ∧ inB py 0 (y - 1) = true) → C = ⟨0, 0, 0, 0⟩) := fun h => by
    rw [← unhide hC]; unfold pixC; rw [if_neg (fun h' => h ⟨h'.1, inB_true.2 h'.2.1, inB_true.2 h'.2.2⟩)]
  have hyes : Hid (surfOkB x y n f = true → inB px 0 (x - 1) = true → inB py 0 (y - 1) = true → ∃ k : Nat, k < n ∧ py * x + px = (k : Int) ∧ f k = C ∧ IntKind.i64.wrap (py * x) = py * x ∧ IntKind.i64.wrap (py * x + px) = py * x + px) := fun h1 h2 h3 => by
    have hs := surfOk_iff.1 h1
    have a2 := inB_true.1 h2
    have a3 := inB_true.1 h3
    have hp := pix_place (y := y) hs.1.1 a2.1 a2.2 a3.1 a3.2
    have hl := hs.le
    have e := hs.2.2.1
    refine ⟨(py * x + px).toNat, by omega, by omega, ?_, IntWalk.i64_in _ (by omega), IntWalk.i64_in _ (by omega)⟩
    rw [← unhide hC]; unfold pixC; rw [if_pos ⟨h1, a2, a3⟩]
  have hw : Hid (surfOkB x y n f = true → IntKind.i64.wrap (x - 1) = x - 1 ∧ IntKind.i64.wrap (y - 1) = y - 1) := fun h => by
    have hs := surfOk_iff.1 h
    have := hs.1
    have := hs.2.1
    exact ⟨IntWalk.i64_in _ (by omega), IntWalk.i64_in _ (by omega)⟩
  clear hC
  generalize surfOkB x y n f = X at ES hno hyes hw
  generalize inB px 0 (x - 1) = ix at EX hno hyes
  generalize inB py 0 (y - 1) = iy at EY hno hyes
  go_enter Try.func5, Try.ntmps5
  go_upto_region 1 with fail
  have R := hide (al2_0 w (.cells #[.int .i64 x, .int .i64 y, .slice ao n cp] 31) (.cells #[.int .i64 0, .int .i64 0, .int .i64 0, .int .i64 0] 27))
  have R6 := hide (al2_1 w (.cells #[.int .i64 x, .int .i64 y, .slice ao n cp] 31) (.cells #[.int .i64 0, .int .i64 0, .int .i64 0, .int .i64 0] 27))
  have HB := hide (al2_below w (.cells #[.int .i64 x, .int .i64 y, .slice ao n cp] 31) (.cells #[.int .i64 0, .int .i64 0, .int .i64 0, .int .i64 0] 27))
  obtain ⟨b6, hb6⟩ : ∃ b, Hid (b = w.heap.size + 1) := ⟨_, rfl⟩
  obtain ⟨b3, hb3⟩ : ∃ b, Hid (b = w.heap.size) := ⟨_, rfl⟩
  have lz : Hid (w.heap.size ≤ b6) := by unfold Hid; rw [unhide hb6]; omega
  rw [← unhide hb6] at R6
  rw [← unhide hb3] at R
  rw [← unhide hb6, ← unhide hb3]
  generalize (w.alloc (.cells #[.int .i64 x, .int .i64 y, .slice ao n cp] 31)).alloc (.cells #[.int .i64 0, .int .i64 0, .int .i64 0, .int .i64 0] 27) = W at R R6 HB ⊢
  clear hb6 hb3
  obtain ⟨r0, r1, r2⟩ := row3 (unhide R)
  have E2 := hide (unhide ES W (fun i hi => (unhide P i hi).next (unhide HB)))
  go_wp2_with fail
  go_fit (unhide E2)
  rintro r w1 ⟨rfl, hb⟩
  replace R := hide (row_next hb (unhide R))
  replace R6 := hide (row_next hb (unhide R6))
  replace HB := hide (below_two (unhide HB) hb)
  clear hb r0 r1 r2 E2
  obtain ⟨r0, r1, r2⟩ := row3 (unhide R)
  obtain ⟨e0, e1, e2, e3⟩ := row4 (unhide R6)
  obtain ⟨f0, f1, f2, f3⟩ := free4 (unhide R6)
  cases X with
  | false =>
    have hC := hide (unhide hno (fun h => by cases h.1))
    go_wp2_with fail
    refine bodyPost_ret (v := .agg #[.int .i64 0, .int .i64 0, .int .i64 0, .int .i64 0]) (by simp [results, Try.results5, go_sem, e0, e1, e2, e3]) rfl ⟨by rw [unhide hC], ?_⟩
    exact below_put4 (unhide HB) (unhide lz) _ _ _ _
  | true =>
  obtain ⟨v1, v2⟩ := unhide hw (by trivial)
  go_wp2_with fail
  go_fit (unhide EX _)
  rintro r u1 ⟨rfl, hu⟩
  rw [hu]
  clear hu u1
  cases ix with
  | false =>
    have hC := hide (unhide hno (fun h => by cases h.2.1))
    go_wp2_with fail
    refine bodyPost_ret (v := .agg #[.int .i64 0, .int .i64 0, .int .i64 0, .int .i64 0]) (by simp [results, Try.results5, go_sem, e0, e1, e2, e3]) rfl ⟨by rw [unhide hC], ?_⟩
    exact below_put4 (unhide HB) (unhide lz) _ _ _ _
  | true =>
  go_wp2_with fail
  go_fit (unhide EY _)
  rintro r u1 ⟨rfl, hu⟩
  rw [hu]
  clear hu u1
  cases iy with
  | false =>
    have hC := hide (unhide hno (fun h => by cases h.2.2))
    go_wp2_with fail
    refine bodyPost_ret (v := .agg #[.int .i64 0, .int .i64 0, .int .i64 0, .int .i64 0]) (by simp [results, Try.results5, go_sem, e0, e1, e2, e3]) rfl ⟨by rw [unhide hC], ?_⟩
    exact below_put4 (unhide HB) (unhide lz) _ _ _ _
  | true =>
    obtain ⟨k, hk, hki, hC, w1', w2'⟩ := unhide hyes (by trivial) (by trivial) (by trivial)
    have HP := (unhide P k hk).next (unhide HB)
    rw [hC] at HP
    clear hC hno hyes hw EX EY ES
    obtain ⟨C0, C1, C2, C3⟩ := C
    obtain ⟨s0, o0, rfl, g0, g1, g2, g3⟩ := HP
    dsimp only at g0 g1 g2 g3
    rw [hki] at w2'
    have hkn : (k : Int) < (n : Int) := by omega
    have hk0 : ¬ (k : Int) < 0 := by omega
    have hki' : IntKind.i64.wrap (py * x + px) = (k : Int) := by rw [hki]; exact w2'
    clear hki w2'
    go_wp2_with fail
    refine bodyPost_ret (v := .agg #[.int .i64 C0, .int .i64 C1, .int .i64 C2, .int .i64 C3]) (by simp [results, Try.results5, go_sem, e0, e1, e2, e3]) rfl ⟨rfl, ?_⟩
    exact below_put4 (unhide HB) (unhide lz) _ _ _ _
end Go.Proofs.Ytngnleoggblinaa
