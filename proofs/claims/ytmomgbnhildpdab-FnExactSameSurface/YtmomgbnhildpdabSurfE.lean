/-
  The specification's SameSurface.
-/
import Derived.Test.YtmomgbnhildpdabSurfS
import Derived.BigQuiet
namespace Go.Proofs.Ytmomgbnhildpdab
open Go.RowKit
set_option linter.unusedVariables false

theorem b4_eq {a b c d e f g h : Int} : (⟨a, b, c, d⟩ : B4) = ⟨e, f, g, h⟩ ↔ (decide (a = e) && (decide (b = f) && (decide (c = g) && decide (d = h)))) = true := by
  simp only [B4.mk.injEq, Bool.and_eq_true, decide_eq_true_eq]

set_option maxHeartbeats 4000000 in
set_option maxRecDepth 100000 in
theorem specSameSurface_any (x y : Int) (f : Nat → B4) (ao : Option Addr) (n cp : Nat) (hn : n ≤ 1048576) (x' y' : Int) (f' : Nat → B4) (bo : Option Addr) (n' cp' : Nat) (hn' : n' ≤ 1048576) (w : World) (P : ∀ i, i < n → ClAt w ao i (f i)) (P' : ∀ i, i < n' → ClAt w bo i (f' i)) :
    Calls Try.prog 16 #[.agg #[.int .i64 x, .int .i64 y, .slice ao n cp], .agg #[.int .i64 x', .int .i64 y', .slice bo n' cp']] w fun r w' => r = .returned (.bool (sameSB x y n f x' y' n' f')) ∧ Below w.heap.size w w' := by
  replace P := hide P
  replace P' := hide P'
  have hyes : Hid (SameS x y n f x' y' n' f' → sameSB x y n f x' y' n' f' = true) := fun h => sameS_iff.2 h
  have hno : Hid (¬ SameS x y n f x' y' n' f' → sameSB x y n f x' y' n' f' = false) := fun h => sameS_no h
  generalize sameSB x y n f x' y' n' f' = X at hyes hno ⊢
  go_enter Try.func16, Try.ntmps16
  go_upto_region 1 with fail
  have R2 := hide (al2_0 w (.cells #[.int .i64 x, .int .i64 y, .slice ao n cp] 28) (.cells #[.int .i64 x', .int .i64 y', .slice bo n' cp'] 28))
  have R3 := hide (al2_1 w (.cells #[.int .i64 x, .int .i64 y, .slice ao n cp] 28) (.cells #[.int .i64 x', .int .i64 y', .slice bo n' cp'] 28))
  have HB := hide (al2_below w (.cells #[.int .i64 x, .int .i64 y, .slice ao n cp] 28) (.cells #[.int .i64 x', .int .i64 y', .slice bo n' cp'] 28))
  obtain ⟨b3, hb3⟩ : ∃ b, Hid (b = w.heap.size + 1) := ⟨_, rfl⟩
  obtain ⟨b2, hb2⟩ : ∃ b, Hid (b = w.heap.size) := ⟨_, rfl⟩
  rw [← unhide hb3] at R3
  rw [← unhide hb2] at R2
  rw [← unhide hb3, ← unhide hb2]
  generalize (w.alloc (.cells #[.int .i64 x, .int .i64 y, .slice ao n cp] 28)).alloc (.cells #[.int .i64 x', .int .i64 y', .slice bo n' cp'] 28) = W at R2 R3 HB ⊢
  clear hb3 hb2
  obtain ⟨r0, r1, r2⟩ := row3 (unhide R2)
  obtain ⟨s0, s1, s2⟩ := row3 (unhide R3)
  by_cases hx : x = x'
  · have hxb : (x == x') = true := beq_iff_eq.2 hx
    by_cases hy : y = y'
    · have hyb : (y == y') = true := beq_iff_eq.2 hy
      by_cases hnn : n = n'
      · subst hx hy hnn
        clear hxb hyb
        go_upto_region 3 with fail
        go_wp2_with fail
        clear r0 r1 r2 s0 s1 s2
        go_loopw [5] (fun i u => ∃ k : Nat, k ≤ n ∧ i = .int .i64 k ∧ Hid (∀ j, j < k → f j = f' j) ∧ Hid (Below w.heap.size w u) ∧ Hid (u.heap[b2]? = some (.cells #[.int .i64 x, .int .i64 y, .slice ao n cp] 28 (0, 0))) ∧ Hid (u.heap[b3]? = some (.cells #[.int .i64 x, .int .i64 y, .slice bo n cp'] 28 (0, 0)))) (fun i _ => n - (intOf i).toNat)
        case atStart => exact ⟨0, Nat.zero_le _, rfl, fun j hj => absurd hj (by omega), HB, R2, R3⟩
        case round =>
          clear HB R2 R3
          obtain ⟨k, hk, rfl, HK, HB, R2, R3⟩ := hrel
          obtain ⟨r0, r1, r2⟩ := row3 (unhide R2)
          obtain ⟨s0, s1, s2⟩ := row3 (unhide R3)
          by_cases hlt : k < n
          · have HP := (unhide P k hlt).next (unhide HB)
            have HQ := (unhide P' k hlt).next (unhide HB)
            obtain ⟨z, hz⟩ : ∃ z, Hid (f k = z) := ⟨_, rfl⟩
            obtain ⟨t, ht⟩ : ∃ t, Hid (f' k = t) := ⟨_, rfl⟩
            rw [unhide hz] at HP
            rw [unhide ht] at HQ
            obtain ⟨z0, z1, z2, z3⟩ := z
            obtain ⟨t0, t1, t2, t3⟩ := t
            obtain ⟨g, o, rfl, g0, g1, g2, g3⟩ := HP
            obtain ⟨h, o', rfl, h0, h1, h2, h3⟩ := HQ
            dsimp only at g0 g1 g2 g3 h0 h1 h2 h3
            have hki : (k : Int) < (n : Int) := by omega
            have hk0 : ¬ (k : Int) < 0 := by omega
            have hq := hide (@b4_eq z0 z1 z2 z3 t0 t1 t2 t3)
            have q : ∀ u, (Op.equalIn 10000 71 (.agg #[.int .i64 z0, .int .i64 z1, .int .i64 z2, .int .i64 z3]) (.agg #[.int .i64 t0, .int .i64 t1, .int .i64 t2, .int .i64 t3])).run Try.prog u = .ok (decide (z0 = t0) && (decide (z1 = t1) && (decide (z2 = t2) && decide (z3 = t3)))) u := fun u => eqlColor z0 z1 z2 z3 t0 t1 t2 t3 u
            generalize (decide (z0 = t0) && (decide (z1 = t1) && (decide (z2 = t2) && decide (z3 = t3)))) = eb at hq q
            cases eb with
            | false =>
              have hX := hide (unhide hno (fun h => by have := h.2.2.2 k hlt; rw [unhide hz, unhide ht] at this; exact absurd ((unhide hq).1 this) (by simp)))
              clear hq
              go_upto_region 6 with fail
              go_quiet (fail)
              go_wp2_with fail
              go_ret
              exact ⟨ret_bool (unhide hX).symm, below_drews (unhide HB) _⟩
            | true =>
              have HK2 : Hid (∀ j, j < k + 1 → f j = f' j) := cols_more (unhide HK) (by rw [unhide hz, unhide ht]; exact (unhide hq).2 rfl)
              clear hq
              go_upto_region 6 with fail
              go_quiet (fail)
              go_wp2_with fail
              go_roundw
              case rel => exact ⟨k + 1, by omega, by go_num, HK2, below_drews (unhide HB) _, unhide R2, unhide R3⟩
              case measure => simp [intOf]; omega
          · have hke : k = n := by omega
            subst hke
            have hki : ¬ (k : Int) < (k : Int) := by omega
            have hX := hide (unhide hyes ⟨rfl, rfl, rfl, unhide HK⟩)
            go_wp2_with fail
            go_ret
            exact ⟨ret_bool (unhide hX).symm, unhide HB⟩
      · have hX := hide (unhide hno (fun h => hnn h.2.2.1))
        have hnb : ((n : Int) == (n' : Int)) = false := beq_eq_false_iff_ne.2 (by omega)
        go_wp2_with fail
        go_ret
        exact ⟨ret_bool (unhide hX).symm, unhide HB⟩
    · have hX := hide (unhide hno (fun h => hy h.2.1))
      have hyb : (y == y') = false := beq_eq_false_iff_ne.2 hy
      go_wp2_with fail
      go_ret
      exact ⟨ret_bool (unhide hX).symm, unhide HB⟩
  · have hX := hide (unhide hno (fun h => hx h.1))
    have hxb : (x == x') = false := beq_eq_false_iff_ne.2 hx
    go_wp2_with fail
    go_ret
    exact ⟨ret_bool (unhide hX).symm, unhide HB⟩
end Go.Proofs.Ytmomgbnhildpdab
