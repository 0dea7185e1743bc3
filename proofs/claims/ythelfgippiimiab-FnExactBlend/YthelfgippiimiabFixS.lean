/-
  The walks of the specification's chapter 3.
-/
import Derived.Test.YthelfgippiimiabBase
import Derived.Test.YthelfgippiimiabFixed
namespace Go.Proofs.Ythelfgippiimiab
open Go.RowKit

theorem specFloorDiv_any (a b : Int) (a0 : -9223372036854775808 ≤ a) (a1 : a ≤ 9223372036854775807) (w : World) :
    Calls Try.prog 104 #[.int .i64 a, .int .i64 b] w fun e w' => e = .returned (.int .i64 (fdivI a b)) ∧ w' = w := by
  by_cases hb : b < 1
  · have H : Hid (0 = fdivI a b) := by unfold Hid fdivI; rw [if_pos hb]
    go_enter Try.func104, Try.ntmps104
    go_wp2
    go_ret
    exact ⟨ret_i64 (unhide H), rfl⟩
  · have hb1 : 1 ≤ b := by omega
    have hb2 : (b == 0) = false := beq_eq_false_iff_ne.2 (by omega)
    by_cases hr : a.tmod b < 0
    · have H : Hid (a.tdiv b - 1 = fdivI a b) := by unfold Hid fdivI; rw [if_neg hb, floor_neg a b hb1 hr]
      have hf := floor_fit hb1 a0 a1
      rw [floor_neg a b hb1 hr] at hf
      obtain ⟨f1, f2⟩ := hf
      go_enter Try.func104, Try.ntmps104
      go_wp2
      go_ret
      exact ⟨ret_i64 (unhide H), rfl⟩
    · have H : Hid (a.tdiv b = fdivI a b) := by unfold Hid fdivI; rw [if_neg hb, floor_pos a b hb1 hr]
      go_enter Try.func104, Try.ntmps104
      go_wp2
      go_ret
      exact ⟨ret_i64 (unhide H), rfl⟩

set_option maxHeartbeats 1000000 in
theorem specRoundDiv_any (a b : Int) (a0 : -9223372036854775808 ≤ a) (a1 : a ≤ 9223372036854775807) (b1 : b ≤ 9223372036854775807) (w : World) :
    Calls Try.prog 82 #[.int .i64 a, .int .i64 b] w fun e w' => e = .returned (.int .i64 (rdivI a b)) ∧ w' = w := by
  by_cases hb : b < 1
  · have H : Hid (0 = rdivI a b) := by unfold Hid rdivI; rw [if_pos hb]
    go_enter Try.func82, Try.ntmps82
    go_wp2
    go_ret
    exact ⟨ret_i64 (unhide H), rfl⟩
  · have hb1 : 1 ≤ b := by omega
    have hF := specFloorDiv_any a b a0 a1
    have e1 : fdivI a b = a / b := by unfold fdivI; rw [if_neg hb]
    rw [e1] at hF
    have hf := floor_fit hb1 a0 a1
    have hw := rest_wrap a b hb1 b1
    have bd := emod_bd a b hb1
    have hfit := @rdiv_fit a b hb1 a0 a1
    have e2 : rdivI a b = if b - a % b ≤ a % b then a / b + 1 else a / b := by unfold rdivI; rw [if_neg hb]
    obtain ⟨q, hq⟩ : ∃ q, q = a / b := ⟨_, rfl⟩
    obtain ⟨r, hr⟩ : ∃ r, r = a % b := ⟨_, rfl⟩
    rw [← hq] at hF hf hw hfit e2
    rw [← hr] at hw bd hfit e2
    have HE := hide e2
    have HF := hide hF
    obtain ⟨f1, f2⟩ := hf
    obtain ⟨r1, r2⟩ := bd
    clear hF e1 e2 hq hr hb
    by_cases hc : b - r ≤ r
    · have H : Hid (q + 1 = rdivI a b) := by unfold Hid; rw [unhide HE, if_pos hc]
      have f3 := hfit hc
      clear hfit
      go_enter Try.func82, Try.ntmps82
      go_wp2_with (go_at_call 104; go_must (refine (unhide HF _).mono ?_); rintro e w1 ⟨rfl, rfl⟩)
      go_ret
      exact ⟨ret_i64 (unhide H), rfl⟩
    · have H : Hid (q = rdivI a b) := by unfold Hid; rw [unhide HE, if_neg hc]
      clear hfit
      go_enter Try.func82, Try.ntmps82
      go_wp2_with (go_at_call 104; go_must (refine (unhide HF _).mono ?_); rintro e w1 ⟨rfl, rfl⟩)
      go_ret
      exact ⟨ret_i64 (unhide H), rfl⟩

theorem specClamp_any (x low high : Int) (w : World) :
    Calls Try.prog 103 #[.int .i64 x, .int .i64 low, .int .i64 high] w fun e w' => e = .returned (.int .i64 (clampI x low high)) ∧ w' = w := by
  by_cases h1 : x < low
  · have H : Hid (low = clampI x low high) := by unfold Hid clampI; rw [if_pos h1]
    go_enter Try.func103, Try.ntmps103
    go_wp2
    go_ret
    exact ⟨ret_i64 (unhide H), rfl⟩
  · by_cases h2 : high < x
    · have H : Hid (high = clampI x low high) := by unfold Hid clampI; rw [if_neg h1, if_pos h2]
      go_enter Try.func103, Try.ntmps103
      go_wp2
      go_ret
      exact ⟨ret_i64 (unhide H), rfl⟩
    · have H : Hid (x = clampI x low high) := by unfold Hid clampI; rw [if_neg h1, if_neg h2]
      go_enter Try.func103, Try.ntmps103
      go_wp2
      go_ret
      exact ⟨ret_i64 (unhide H), rfl⟩

theorem clamp255 (x : Int) : 0 ≤ clampI x 0 255 ∧ clampI x 0 255 ≤ 255 := by unfold clampI; split <;> (try split) <;> omega
theorem prod255 {x y : Int} (h1 : 0 ≤ x ∧ x ≤ 255) (h2 : 0 ≤ y ∧ y ≤ 255) : 0 ≤ x * y ∧ x * y ≤ 65025 := ⟨Int.mul_nonneg h1.1 h2.1, by have := Int.mul_le_mul h1.2 h2.2 h2.1 (by decide); omega⟩

set_option maxHeartbeats 1000000 in
theorem specTimes255_any (a b : Int) (w : World) :
    Calls Try.prog 81 #[.int .i64 a, .int .i64 b] w fun e w' => e = .returned (.int .i64 (t255I a b)) ∧ w' = w := by
  have ca := clamp255 a
  have cb := clamp255 b
  have hA := specClamp_any a 0 255
  have hB := specClamp_any b 0 255
  have e : t255I a b = rdivI (clampI a 0 255 * clampI b 0 255) 255 := rfl
  obtain ⟨x, hx⟩ : ∃ x, x = clampI a 0 255 := ⟨_, rfl⟩
  obtain ⟨y, hy⟩ : ∃ y, y = clampI b 0 255 := ⟨_, rfl⟩
  rw [← hx, ← hy] at e
  rw [← hx] at ca hA
  rw [← hy] at cb hB
  have HE := hide e
  obtain ⟨p1, p2⟩ := prod255 ca cb
  have HA := hide hA
  have HB := hide hB
  have HR := hide (specRoundDiv_any (x * y) 255 (by omega) (by omega) (by omega))
  clear hA hB e hx hy
  go_enter Try.func81, Try.ntmps81
  go_wp2_with fail
  refine (unhide HA _).mono ?_
  rintro e w1 ⟨rfl, rfl⟩
  go_wp2_with fail
  refine (unhide HB _).mono ?_
  rintro e w2 ⟨rfl, rfl⟩
  go_wp2_with fail
  refine (unhide HR _).mono ?_
  rintro e w3 ⟨rfl, rfl⟩
  go_wp2
  go_ret
  exact ⟨ret_i64 (by rw [unhide HE]), rfl⟩

end Go.Proofs.Ythelfgippiimiab
