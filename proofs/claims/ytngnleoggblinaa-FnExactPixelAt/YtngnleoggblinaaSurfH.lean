/-
  The program's right surfaces, their squares, two surfaces held against each other.
-/
import Derived.Test.YtngnleoggblinaaSurfI
import Derived.Test.YtngnleoggblinaaSurfE
namespace Go.Proofs.Ytngnleoggblinaa
open Go.RowKit
set_option linter.unusedVariables false

set_option maxHeartbeats 4000000 in
set_option maxRecDepth 100000 in
theorem implSurfaceOk_any (x y : Int) (f : Nat → B4) (ao : Option Addr) (n cp : Nat) (hn : n ≤ 1048576) (hc : n ≤ cp) (hao : ao = none → cp = 0) (w : World) (P : ∀ i, i < n → ClAt w ao i (f i)) :
    Calls Try.prog 14 #[.agg #[.int .i64 x, .int .i64 y, .slice ao n cp]] w fun r w' => r = .returned (.bool (surfOkB x y n f)) ∧ Below w.heap.size w w' := by
  have EX := hide (implSideOk_any x)
  have EY := hide (implSideOk_any y)
  replace P := hide P
  have hyes : Hid (SOk x y n f → surfOkB x y n f = true) := fun h => surfOk_iff.2 h
  have hno : Hid (¬ SOk x y n f → surfOkB x y n f = false) := fun h => surfOk_no h
  generalize surfOkB x y n f = X at hyes hno ⊢
  have hS : Hid (SOk x y n f ↔ (inB x 1 12 = true) ∧ (inB y 1 12 = true) ∧ (n : Int) = x * y ∧ ∀ i, i < n → laidOkB (f i) = true) := by unfold Hid SOk; rw [inB_true, inB_true]
  have hpr : Hid (inB x 1 12 = true → inB y 1 12 = true → IntKind.i64.wrap (x * y) = x * y) := fun h1 h2 => IntWalk.i64_in _ (by have := side_prod (inB_true.1 h1) (inB_true.1 h2); omega)
  generalize SOk x y n f = M at hyes hno hS
  generalize inB x 1 12 = ix at EX hS hpr
  generalize inB y 1 12 = iy at EY hS hpr
  go_enter Try.func14, Try.ntmps14
  go_upto_region 1 with fail
  have R := hide (new_row w (.cells #[.int .i64 x, .int .i64 y, .slice ao n cp] 31))
  have HB := hide (al1_below w (.cells #[.int .i64 x, .int .i64 y, .slice ao n cp] 31))
  obtain ⟨b1, hb1⟩ : ∃ b, Hid (b = w.heap.size) := ⟨_, rfl⟩
  rw [← unhide hb1] at R
  rw [← unhide hb1]
  generalize w.alloc (.cells #[.int .i64 x, .int .i64 y, .slice ao n cp] 31) = W at R HB ⊢
  obtain ⟨r0, r1, r2⟩ := row3 (unhide R)
  go_wp2_with fail
  go_fit (unhide EX _)
  rintro r u1 ⟨rfl, rfl⟩
  cases ix with
  | false =>
    have hX := hide (unhide hno (fun h => by have := (unhide hS).1 h; cases this.1))
    go_wp2_with fail
    go_ret
    exact ⟨ret_bool (unhide hX).symm, unhide HB⟩
  | true =>
  go_wp2_with fail
  go_fit (unhide EY _)
  rintro r u1 ⟨rfl, rfl⟩
  cases iy with
  | false =>
    have hX := hide (unhide hno (fun h => by have := (unhide hS).1 h; cases this.2.1))
    go_wp2_with fail
    go_ret
    exact ⟨ret_bool (unhide hX).symm, unhide HB⟩
  | true =>
    have w3 := unhide hpr (by trivial) (by trivial)
    by_cases hq : (n : Int) = x * y
    · have hq1 := hide hq
      have w4 : IntKind.i64.wrap (x * y) = (n : Int) := by rw [w3, hq]
      clear w3 hq
      go_upto_region 4 with fail
      go_wp2_with fail
      clear r0 r1 r2 w4
      go_loopw [29] (fun i u => ∃ k : Nat, k ≤ n ∧ i = .int .i64 k ∧ Hid (∀ j, j < k → laidOkB (f j) = true) ∧ Hid (Below w.heap.size w u)) (fun i _ => n - (intOf i).toNat)
      case atStart => exact ⟨0, Nat.zero_le _, rfl, fun j hj => absurd hj (by omega), HB⟩
      case round =>
        clear HB R
        obtain ⟨k, hk, rfl, HK, HB⟩ := hrel
        by_cases hlt : k < n
        · have HP := (unhide P k hlt).next (unhide HB)
          obtain ⟨z, hz⟩ : ∃ z, Hid (f k = z) := ⟨_, rfl⟩
          rw [unhide hz] at HP
          obtain ⟨z0, z1, z2, z3⟩ := z
          obtain ⟨s0, o0, rfl, g0, g1, g2, g3⟩ := HP
          dsimp only at g0 g1 g2 g3
          have EI := hide (implLaidOk_any z0 z1 z2 z3)
          have hki : (k : Int) < (n : Int) := by omega
          cases hi : laidOkB ⟨z0, z1, z2, z3⟩ with
          | false =>
            rw [hi] at EI
            have hX := hide (unhide hno (fun h => by have := ((unhide hS).1 h).2.2.2 k hlt; rw [unhide hz, hi] at this; cases this))
            clear hi
            go_wp2_with fail
            go_fit (unhide EI _)
            rintro r u2 ⟨rfl, hb⟩
            replace HB := hide (below_two (unhide HB) (below_two (al1_below _ _) hb))
            go_wp2_with fail
            go_ret
            exact ⟨ret_bool (unhide hX).symm, unhide HB⟩
          | true =>
            rw [hi] at EI
            have HK2 : Hid (∀ j, j < k + 1 → laidOkB (f j) = true) := cols_more (unhide HK) (by rw [unhide hz]; exact hi)
            clear hi
            go_wp2_with fail
            go_fit (unhide EI _)
            rintro r u2 ⟨rfl, hb⟩
            replace HB := hide (below_two (unhide HB) (below_two (al1_below _ _) hb))
            clear hb g0 g1 g2 g3
            go_wp2_with fail
            go_roundw
            case rel => exact ⟨k + 1, by omega, by go_num, HK2, HB⟩
            case measure => simp [intOf]; omega
        · have hke : k = n := by omega
          subst hke
          have hki : ¬ (k : Int) < (k : Int) := by omega
          have hX := hide (unhide hyes ((unhide hS).2 ⟨by trivial, by trivial, unhide hq1, unhide HK⟩))
          go_wp2_with fail
          go_ret
          exact ⟨ret_bool (unhide hX).symm, unhide HB⟩
    · have hX := hide (unhide hno (fun h => hq ((unhide hS).1 h).2.2.1))
      have hqb : ((n : Int) == x * y) = false := beq_eq_false_iff_ne.2 hq
      go_wp2_with fail
      go_ret
      exact ⟨ret_bool (unhide hX).symm, unhide HB⟩

set_option maxHeartbeats 4000000 in
set_option maxRecDepth 100000 in
theorem implSquaresOf_any (x y : Int) (ao : Option Addr) (n cp : Nat) (w : World) :
    Calls Try.prog 16 #[.agg #[.int .i64 x, .int .i64 y, .slice ao n cp]] w fun r w' => r = .returned (.agg #[.int .i64 0, .int .i64 0, .int .i64 x, .int .i64 y]) ∧ Below w.heap.size w w' := by
  go_enter Try.func16, Try.ntmps16
  go_upto_region 1 with fail
  have R := al2_0 w (.cells #[.int .i64 x, .int .i64 y, .slice ao n cp] 31) (.cells #[.int .i64 0, .int .i64 0, .int .i64 0, .int .i64 0] 42)
  have R2 := al2_1 w (.cells #[.int .i64 x, .int .i64 y, .slice ao n cp] 31) (.cells #[.int .i64 0, .int .i64 0, .int .i64 0, .int .i64 0] 42)
  have HB := hide (al2_below w (.cells #[.int .i64 x, .int .i64 y, .slice ao n cp] 31) (.cells #[.int .i64 0, .int .i64 0, .int .i64 0, .int .i64 0] 42))
  generalize (w.alloc (.cells #[.int .i64 x, .int .i64 y, .slice ao n cp] 31)).alloc (.cells #[.int .i64 0, .int .i64 0, .int .i64 0, .int .i64 0] 42) = W at R R2 HB ⊢
  obtain ⟨b2, hb2⟩ : ∃ b, Hid (b = w.heap.size + 1) := ⟨_, rfl⟩
  have lz : Hid (w.heap.size ≤ b2) := by unfold Hid; rw [unhide hb2]; omega
  rw [← unhide hb2] at R2 ⊢
  obtain ⟨p0, p1, p2⟩ := row3 R
  obtain ⟨r0, r1, r2, r3⟩ := row4 R2
  obtain ⟨f0, f1, f2, f3⟩ := free4 R2
  clear R R2 hb2
  go_wp2_with fail
  refine bodyPost_ret (v := .agg #[.int .i64 0, .int .i64 0, .int .i64 x, .int .i64 y]) (by simp [results, Try.results16, go_sem, r0, r1, r2, r3]) rfl ⟨rfl, ?_⟩
  exact below_put4 (unhide HB) (unhide lz) _ _ _ _

set_option maxHeartbeats 4000000 in
set_option maxRecDepth 100000 in
theorem implPixelAt_any (x y : Int) (f : Nat → B4) (ao : Option Addr) (n cp : Nat) (hn : n ≤ 1048576) (hc : n ≤ cp) (hao : ao = none → cp = 0) (px py : Int) (w : World) (P : ∀ i, i < n → ClAt w ao i (f i)) :
    Calls Try.prog 7 #[.agg #[.int .i64 x, .int .i64 y, .slice ao n cp], .int .i64 px, .int .i64 py] w fun r w' => r = .returned (.agg #[.int .i64 ((pixC x y n f px py).x0), .int .i64 ((pixC x y n f px py).y0), .int .i64 ((pixC x y n f px py).x1), .int .i64 ((pixC x y n f px py).y1)]) ∧ Below w.heap.size w w' := by
  have ES := hide (fun u => implSurfaceOk_any x y f ao n cp hn hc hao u)
  have EB := hide (implInBox_any 0 0 x y px py)
  have EQ := hide (fun u => implSquaresOf_any x y ao n cp u)
  replace P := hide P
  obtain ⟨C, hC⟩ : ∃ C, Hid (pixC x y n f px py = C) := ⟨_, rfl⟩
  rw [unhide hC]
  have hin : inBoxB 0 0 x y px py = true ↔ (0 ≤ px ∧ px ≤ x - 1) ∧ (0 ≤ py ∧ py ≤ y - 1) := by
    simp only [inBoxB, Bool.and_eq_true, decide_eq_true_eq]
    omega
  have hno : Hid (¬ (surfOkB x y n f = true ∧ inBoxB 0 0 x y px py = true) → C = ⟨0, 0, 0, 0⟩) := fun h => by
    rw [← unhide hC]; unfold pixC; rw [if_neg (fun h' => h ⟨h'.1, hin.2 h'.2⟩)]
  have hyes : Hid (surfOkB x y n f = true → inBoxB 0 0 x y px py = true → ∃ k : Nat, k < n ∧ py * x + px = (k : Int) ∧ f k = C ∧ IntKind.i64.wrap (py * x) = py * x ∧ IntKind.i64.wrap (py * x + px) = py * x + px) := fun h1 h2 => by
    have hs := surfOk_iff.1 h1
    have a2 := (hin.1 h2).1
    have a3 := (hin.1 h2).2
    have hp := pix_place (y := y) hs.1.1 a2.1 a2.2 a3.1 a3.2
    have hl := hs.le
    have e := hs.2.2.1
    refine ⟨(py * x + px).toNat, by omega, by omega, ?_, IntWalk.i64_in _ (by omega), IntWalk.i64_in _ (by omega)⟩
    rw [← unhide hC]; unfold pixC; rw [if_pos ⟨h1, a2, a3⟩]
  clear hC hin
  generalize surfOkB x y n f = X at ES hno hyes
  generalize inBoxB 0 0 x y px py = ib at EB hno hyes
  go_enter Try.func7, Try.ntmps7
  go_upto_region 1 with fail
  have R := hide (al2_0 w (.cells #[.int .i64 x, .int .i64 y, .slice ao n cp] 31) (.cells #[.int .i64 0, .int .i64 0, .int .i64 0, .int .i64 0] 27))
  have R6 := hide (al2_1 w (.cells #[.int .i64 x, .int .i64 y, .slice ao n cp] 31) (.cells #[.int .i64 0, .int .i64 0, .int .i64 0, .int .i64 0] 27))
  have HB := hide (al2_below w (.cells #[.int .i64 x, .int .i64 y, .slice ao n cp] 31) (.cells #[.int .i64 0, .int .i64 0, .int .i64 0, .int .i64 0] 27))
  obtain ⟨b6, hb6⟩ : ∃ b, Hid (b = w.heap.size + 1) := ⟨_, rfl⟩
  obtain ⟨b3, hb3⟩ : ∃ b, Hid (b = w.heap.size) := ⟨_, rfl⟩
  have lz : Hid (w.heap.size ≤ b6 ∧ b3 < b6) := by unfold Hid; rw [unhide hb6, unhide hb3]; omega
  rw [← unhide hb6] at R6
  rw [← unhide hb3] at R
  rw [← unhide hb6, ← unhide hb3]
  generalize (w.alloc (.cells #[.int .i64 x, .int .i64 y, .slice ao n cp] 31)).alloc (.cells #[.int .i64 0, .int .i64 0, .int .i64 0, .int .i64 0] 27) = W at R R6 HB ⊢
  clear hb6 hb3
  have E2 := hide (unhide ES W (fun i hi => (unhide P i hi).next (unhide HB)))
  obtain ⟨p0, p1, p2⟩ := row3 (unhide R)
  go_wp2_with fail
  go_fit (unhide E2)
  rintro r w1 ⟨rfl, hb⟩
  replace R := hide (row_next hb (unhide R))
  replace R6 := hide (row_next hb (unhide R6))
  replace HB := hide (below_two (unhide HB) hb)
  clear hb p0 p1 p2 E2 ES
  obtain ⟨p0, p1, p2⟩ := row3 (unhide R)
  cases X with
  | false =>
    have hCz := hide (unhide hno (fun h => by cases h.1))
    obtain ⟨e0, e1, e2, e3⟩ := row4 (unhide R6)
    obtain ⟨f0, f1, f2, f3⟩ := free4 (unhide R6)
    go_wp2_with fail
    refine bodyPost_ret (v := .agg #[.int .i64 0, .int .i64 0, .int .i64 0, .int .i64 0]) (by simp [results, Try.results7, go_sem, e0, e1, e2, e3]) rfl ⟨by rw [unhide hCz], ?_⟩
    exact below_put4 (unhide HB) (unhide lz).1 _ _ _ _
  | true =>
    go_wp2_with fail
    go_fit (unhide EQ _)
    rintro r wq ⟨rfl, hb⟩
    replace R := hide (row_next hb (unhide R))
    replace R6 := hide (row_next hb (unhide R6))
    replace HB := hide (below_two (unhide HB) hb)
    clear hb p0 p1 p2 EQ
    go_wp2_with fail
    go_fit (unhide EB _)
    rintro r w2 ⟨rfl, hb⟩
    replace R := hide (row_next hb (unhide R))
    replace R6 := hide (row_next hb (unhide R6))
    replace HB := hide (below_two (unhide HB) hb)
    clear hb EB
    cases ib with
    | false =>
      have hCz := hide (unhide hno (fun h => by cases h.2))
      obtain ⟨e0, e1, e2, e3⟩ := row4 (unhide R6)
      obtain ⟨f0, f1, f2, f3⟩ := free4 (unhide R6)
      go_wp2_with fail
      refine bodyPost_ret (v := .agg #[.int .i64 0, .int .i64 0, .int .i64 0, .int .i64 0]) (by simp [results, Try.results7, go_sem, e0, e1, e2, e3]) rfl ⟨by rw [unhide hCz], ?_⟩
      exact below_put4 (unhide HB) (unhide lz).1 _ _ _ _
    | true =>
      obtain ⟨k, hkn, hkk, hfk, v1, v2⟩ := unhide hyes (by trivial) (by trivial)
      have EPL := hide (implPixPlace_any x y px py (.slice ao n cp) v1 v2)
      rw [hkk] at EPL
      have HP0 := unhide P k hkn
      rw [hfk] at HP0
      have HP := HP0.next (unhide HB)
      obtain ⟨C0, C1, C2, C3⟩ := C
      obtain ⟨s0, o0, rfl, g0, g1, g2, g3⟩ := HP
      obtain ⟨s0', o0', ee, g0', _⟩ := HP0
      cases ee
      have ls0 := hide (show s0 < w.heap.size from block_lt_of_cell g0')
      clear g0' v1 v2 hkk hfk hyes hno P
      dsimp only at g0 g1 g2 g3 ⊢
      have hkn' : (k : Int) < (n : Int) := by omega
      have hkn0 : ¬ (k : Int) < 0 := by omega
      replace g0 := hide g0
      replace g1 := hide g1
      replace g2 := hide g2
      replace g3 := hide g3
      have lb := hide (show b6 < w2.heap.size from heap_lt (unhide R6))
      have ne1 : ¬ b6 = b3 := by have := unhide lz; omega
      have ne2 : ¬ b3 = b6 := by have := unhide lz; omega
      have ne3 : ¬ b6 = s0 := by have := unhide lz; have := unhide ls0; omega
      have ne4 : ¬ s0 = b6 := by have := unhide lz; have := unhide ls0; omega
      go_upto_region 3 with fail
      have k0 := hide (show ∀ u, Below b6 w2 u → (u.cell? ⟨b3, 0, none⟩ = some (.int .i64 x) ∧ u.cell? ⟨b3, 1, none⟩ = some (.int .i64 y) ∧ u.cell? ⟨b3, 2, none⟩ = some (.slice (some ⟨s0, o0, none⟩) n cp) ∧ u.cell? ⟨s0, o0 + k * 4, none⟩ = some (.int .i64 C0) ∧ u.cell? ⟨s0, o0 + k * 4 + 1, none⟩ = some (.int .i64 C1) ∧ u.cell? ⟨s0, o0 + k * 4 + 2, none⟩ = some (.int .i64 C2) ∧ u.cell? ⟨s0, o0 + k * 4 + 3, none⟩ = some (.int .i64 C3) ∧ Below b6 w2 u) from fun u h => by
        obtain ⟨c0, c1, c2⟩ := row3 ((h.block b3 (unhide lz).2).trans (unhide R))
        have l : s0 < b6 := by have := unhide lz; have := unhide ls0; omega
        exact ⟨c0, c1, c2, (h.cell l).trans (unhide g0), (h.cell l).trans (unhide g1), (h.cell l).trans (unhide g2), (h.cell l).trans (unhide g3), h⟩)
      have k00 := hide (unhide k0 _ (Below.refl _ _).drew)
      go_region_held3 (fun u => u.cell? ⟨b3, 0, none⟩ = some (.int .i64 x) ∧ u.cell? ⟨b3, 1, none⟩ = some (.int .i64 y) ∧ u.cell? ⟨b3, 2, none⟩ = some (.slice (some ⟨s0, o0, none⟩) n cp) ∧ u.cell? ⟨s0, o0 + k * 4, none⟩ = some (.int .i64 C0) ∧ u.cell? ⟨s0, o0 + k * 4 + 1, none⟩ = some (.int .i64 C1) ∧ u.cell? ⟨s0, o0 + k * 4 + 2, none⟩ = some (.int .i64 C2) ∧ u.cell? ⟨s0, o0 + k * 4 + 3, none⟩ = some (.int .i64 C3) ∧ Below b6 w2 u) ((first | with_reducible exact unhide k00 | (with_reducible refine unhide k0 _ ?_; first | with_reducible assumption | with_reducible exact Below.mono (by assumption) (Nat.le_of_lt (unhide lb)) | (with_reducible refine below_put4 ?_ (Nat.le_refl _) _ _ _ _; with_reducible exact Below.mono (by assumption) (Nat.le_of_lt (unhide lb)))))) (first | (go_at_call 17; go_fit (unhide EPL _); rintro r w6 ⟨rfl, hb6'⟩; have hb6 := below_undrew hb6'; clear hb6'; obtain ⟨e0, e1, e2, e3⟩ := row4 (row_next hb6 (unhide R6)); obtain ⟨f0, f1, f2, f3⟩ := free4 (row_next hb6 (unhide R6))))
      all_goals
        go_wp2_with fail
        refine bodyPost_ret (v := .agg #[.int .i64 C0, .int .i64 C1, .int .i64 C2, .int .i64 C3]) (by simp [results, Try.results7, go_sem, e0, e1, e2, e3]) rfl ⟨rfl, ?_⟩
        exact below_put4 (below_two (unhide HB) hb6) (unhide lz).1 _ _ _ _
end Go.Proofs.Ytngnleoggblinaa
