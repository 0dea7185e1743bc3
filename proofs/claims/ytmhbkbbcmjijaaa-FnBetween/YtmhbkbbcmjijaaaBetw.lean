/-
  FnBetween: a number between two; parts of 255.
-/
import Derived.Test.YtmhbkbbcmjijaaaQuot
namespace Go.Proofs.Ytmhbkbbcmjijaaa
open Go.RowKit

theorem clamp_in {x : Int} (h : 0 ≤ x ∧ x ≤ 255) : clampI x 0 255 = x := by unfold clampI; rw [if_neg (by omega), if_neg (by omega)]
theorem rdiv255 (n : Int) : rdivI n 255 = if 255 - n % 255 ≤ n % 255 then n / 255 + 1 else n / 255 := by unfold rdivI; rw [if_neg (by omega)]

theorem t255_facts {a b : Int} (ha : 0 ≤ a ∧ a ≤ 255) (hb : 0 ≤ b ∧ b ≤ 255) : t255I a b ≤ a ∧ t255I a b ≤ b ∧ 0 ≤ t255I a b ∧ t255I b a = t255I a b ∧ t255I a 255 = a ∧ t255I a 0 = 0 := by
  have e1 : t255I a b = rdivI (a * b) 255 := by unfold t255I; rw [clamp_in ha, clamp_in hb]
  have e2 : t255I b a = rdivI (a * b) 255 := by unfold t255I; rw [clamp_in ha, clamp_in hb, Int.mul_comm]
  have e3 : t255I a 255 = rdivI (a * 255) 255 := by unfold t255I; rw [clamp_in ha, clamp_in (x := 255) (by omega)]
  have e4 : t255I a 0 = rdivI (a * 0) 255 := by unfold t255I; rw [clamp_in ha, clamp_in (x := 0) (by omega)]
  have p0 : 0 ≤ a * b := Int.mul_nonneg ha.1 hb.1
  have p1 : a * b ≤ a * 255 := Int.mul_le_mul_of_nonneg_left hb.2 ha.1
  have p2 : a * b ≤ 255 * b := Int.mul_le_mul_of_nonneg_right ha.2 hb.1
  rw [e1, e2, e3, e4, rdiv255, rdiv255, rdiv255]
  obtain ⟨n, hn⟩ : ∃ n, n = a * b := ⟨_, rfl⟩
  rw [← hn] at p0 p1 p2 ⊢
  refine ⟨?_, ?_, ?_, rfl, ?_, ?_⟩ <;> split <;> omega

theorem clamp_facts (x low high : Int) (h : low ≤ high) : low ≤ clampI x low high ∧ clampI x low high ≤ high ∧ (x < low ∨ high < x ∨ clampI x low high = x) ∧ clampI (clampI x low high) low high = clampI x low high := by
  by_cases h1 : x < low
  · have e : clampI x low high = low := by unfold clampI; rw [if_pos h1]
    rw [e]
    refine ⟨by omega, by omega, by omega, ?_⟩
    unfold clampI; rw [if_neg (by omega), if_neg (by omega)]
  · by_cases h2 : high < x
    · have e : clampI x low high = high := by unfold clampI; rw [if_neg h1, if_pos h2]
      rw [e]
      refine ⟨by omega, by omega, by omega, ?_⟩
      unfold clampI; rw [if_neg (by omega), if_neg (by omega)]
    · have e : clampI x low high = x := by unfold clampI; rw [if_neg h1, if_neg h2]
      rw [e]
      exact ⟨by omega, by omega, by omega, e⟩

set_option maxHeartbeats 2000000 in
theorem fnBetween_walk (a0 : Option Addr) (len0 cap0 : Nat) (z0 : List Int) (w : World) (w0 : IsRow .u8 w a0 len0 cap0 z0) :
    Calls Try.prog 4 #[.slice a0 len0 cap0] w fun e w' => e = .returned (.bool true) ∧ Below w.heap.size w w' := by
  by_cases hl : len0 ≤ 1048576
  · have HI := hide (InB.of_row w0)
    clear w0
    go_enter Try.func4, Try.ntmps4
    dsimp only [List.append]
    go_wp2_with fail
    refine (big_no a0 len0 cap0 hl _).mono ?_
    rintro e w1 ⟨rfl, rfl⟩
    go_wp2_with fail
    refine (drawPlaces_any a0 len0 cap0 _ hl (unhide HI)).mono ?_
    rintro e w3 ⟨vp, p, hp12, hpb, rfl, hop, hb3⟩
    have B3 := hide hb3
    have OP := hide hop
    clear hop hb3
    obtain ⟨pp, pc, rfl, _, _, _, hpp⟩ := row_form (unhide OP)
    obtain ⟨gp, rfl, hgp1, hgp2⟩ := hpp (by omega)
    obtain ⟨x0, ⟨_, _⟩, c0⟩ := place_at (unhide OP) hpb 0 (by omega)
    obtain ⟨x1, ⟨_, _⟩, c1⟩ := place_at (unhide OP) hpb 1 (by omega)
    obtain ⟨x2, ⟨_, _⟩, c2⟩ := place_at (unhide OP) hpb 2 (by omega)
    obtain ⟨x3, ⟨_, _⟩, c3⟩ := place_at (unhide OP) hpb 3 (by omega)
    obtain ⟨x4, ⟨_, _⟩, c4⟩ := place_at (unhide OP) hpb 4 (by omega)
    rw [hp12]
    clear hpb
    go_wp2_with fail
    have hlh : x0 - 5000 ≤ x0 - 5000 + x1 := by omega
    obtain ⟨L, hL⟩ : ∃ L, L = x0 - 5000 := ⟨_, rfl⟩
    rw [← hL] at hlh ⊢
    obtain ⟨U, hU⟩ : ∃ U, U = L + x1 := ⟨_, rfl⟩
    rw [← hU] at hlh ⊢
    obtain ⟨X, hX⟩ : ∃ X, X = x2 * 2 - 10000 := ⟨_, rfl⟩
    rw [← hX]
    clear hL hU hX
    obtain ⟨k1, k2, k3, k4⟩ := clamp_facts X L U hlh
    have h1 := implClamp_any X L U
    obtain ⟨c, hc⟩ : ∃ c, c = clampI X L U := ⟨_, rfl⟩
    rw [← hc] at k1 k2 k3 k4 h1
    have h2 := implClamp_any c L U
    rw [k4] at h2
    have H1 := hide h1
    have H2 := hide h2
    have K3 := hide k3
    clear h1 h2 hc k3 k4
    refine (unhide H1 _).mono ?_
    rintro e w4 ⟨rfl, rfl⟩
    go_wp2_with fail
    have hab : (0 ≤ x3 % 256 ∧ x3 % 256 ≤ 255) ∧ (0 ≤ x4 % 256 ∧ x4 % 256 ≤ 255) := by omega
    obtain ⟨A, hA⟩ : ∃ A, A = x3 % 256 := ⟨_, rfl⟩
    obtain ⟨B, hB⟩ : ∃ B, B = x4 % 256 := ⟨_, rfl⟩
    rw [← hA, ← hB] at hab ⊢
    clear hA hB
    have h3 := implTimes255_any A B
    have h4 := implTimes255_any B A
    have h5 := implTimes255_any A 255
    have h6 := implTimes255_any A 0
    have h7 := specTimes255_any A B
    obtain ⟨u1, u2, u3, u4, u5, u6⟩ := t255_facts hab.1 hab.2
    rw [u4] at h4
    rw [u5] at h5
    rw [u6] at h6
    obtain ⟨t, ht⟩ : ∃ t, t = t255I A B := ⟨_, rfl⟩
    rw [← ht] at h3 h4 h7 u1 u2 u3
    have H3 := hide h3
    have H4 := hide h4
    have H5 := hide h5
    have H6 := hide h6
    have H7 := hide h7
    clear h3 h4 h5 h6 h7 u4 u5 u6 ht hab
    refine (unhide H3 _).mono ?_
    rintro e w5 ⟨rfl, hb5⟩
    have B5 := hide (below_after hb5 (unhide B3) (Nat.le_refl _))
    clear hb5
    have t1 : decide (L ≤ c) = true := decide_eq_true k1
    have t2 : decide (c ≤ U) = true := decide_eq_true k2
    have t3 : decide (t ≤ A) = true := decide_eq_true u1
    have t4 : decide (t ≤ B) = true := decide_eq_true u2
    have t5 : decide (0 ≤ t) = true := decide_eq_true u3
    by_cases g1 : X < L
    · have t6 : decide (X < L) = true := decide_eq_true g1
      go_wp2_with fail
      refine (unhide H2 _).mono ?_
      rintro e w7 ⟨rfl, rfl⟩
      go_wp2_with fail
      refine (unhide H4 _).mono ?_
      rintro e w8 ⟨rfl, hb8⟩
      go_wp2_with fail
      refine (unhide H5 _).mono ?_
      rintro e w9 ⟨rfl, hb9⟩
      go_wp2_with fail
      refine (unhide H6 _).mono ?_
      rintro e w10 ⟨rfl, hb10⟩
      go_wp2_with fail
      refine (unhide H7 _).mono ?_
      rintro e w7 ⟨rfl, rfl⟩
      go_wp2_with fail
      go_ret
      exact ⟨by simp, below_after hb10 (below_after hb9 (below_after hb8 (unhide B5) (Nat.le_refl _)) (Nat.le_refl _)) (Nat.le_refl _)⟩
    · have t6 : decide (X < L) = false := decide_eq_false g1
      by_cases g2 : U < X
      · have t7 : decide (U < X) = true := decide_eq_true g2
        go_wp2_with fail
        refine (unhide H2 _).mono ?_
        rintro e w7 ⟨rfl, rfl⟩
        go_wp2_with fail
        refine (unhide H4 _).mono ?_
        rintro e w8 ⟨rfl, hb8⟩
        go_wp2_with fail
        refine (unhide H5 _).mono ?_
        rintro e w9 ⟨rfl, hb9⟩
        go_wp2_with fail
        refine (unhide H6 _).mono ?_
        rintro e w10 ⟨rfl, hb10⟩
        go_wp2_with fail
        refine (unhide H7 _).mono ?_
        rintro e w7 ⟨rfl, rfl⟩
        go_wp2_with fail
        go_ret
        exact ⟨by simp, below_after hb10 (below_after hb9 (below_after hb8 (unhide B5) (Nat.le_refl _)) (Nat.le_refl _)) (Nat.le_refl _)⟩
      · have t7 : decide (U < X) = false := decide_eq_false g2
        obtain rfl : X = c := by have := unhide K3; omega
        go_wp2_with fail
        refine (unhide H2 _).mono ?_
        rintro e w7 ⟨rfl, rfl⟩
        go_wp2_with fail
        refine (unhide H4 _).mono ?_
        rintro e w8 ⟨rfl, hb8⟩
        go_wp2_with fail
        refine (unhide H5 _).mono ?_
        rintro e w9 ⟨rfl, hb9⟩
        go_wp2_with fail
        refine (unhide H6 _).mono ?_
        rintro e w10 ⟨rfl, hb10⟩
        go_wp2_with fail
        refine (unhide H7 _).mono ?_
        rintro e w7 ⟨rfl, rfl⟩
        go_wp2_with fail
        go_ret
        exact ⟨by simp, below_after hb10 (below_after hb9 (below_after hb8 (unhide B5) (Nat.le_refl _)) (Nat.le_refl _)) (Nat.le_refl _)⟩
  · go_enter Try.func4, Try.ntmps4
    go_wp2_with (go_at_call 9; go_must (refine (big_yes a0 len0 cap0 hl _).mono ?_); rintro e w1 ⟨rfl, rfl⟩)
    go_ret
    exact ⟨rfl, Below.refl _ _⟩
end Go.Proofs.Ytmhbkbbcmjijaaa
