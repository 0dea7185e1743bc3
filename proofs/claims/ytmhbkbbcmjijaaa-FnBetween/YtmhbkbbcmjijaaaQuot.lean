/-
  FnQuotients: drawn quotients and roots.
-/
import Derived.Test.YtmhbkbbcmjijaaaDrawP
import Derived.Test.YtmhbkbbcmjijaaaFixI
namespace Go.Proofs.Ytmhbkbbcmjijaaa
open Go.RowKit

def absI (x : Int) : Int := if x < 0 then -x else x

theorem lawsAbs_any (x : Int) (h : -9223372036854775807 ≤ x) (h1 : x ≤ 9223372036854775807) (w : World) :
    Calls Try.prog 14 #[.int .i64 x] w fun e w' => e = .returned (.int .i64 (absI x)) ∧ w' = w := by
  by_cases hx : x < 0
  · have H : Hid (-x = absI x) := by unfold Hid absI; rw [if_pos hx]
    go_enter Try.func14, Try.ntmps14
    go_wp2
    go_ret
    exact ⟨ret_i64 (unhide H), rfl⟩
  · have H : Hid (x = absI x) := by unfold Hid absI; rw [if_neg hx]
    go_enter Try.func14, Try.ntmps14
    go_wp2
    go_ret
    exact ⟨ret_i64 (unhide H), rfl⟩

theorem quot_down (a b : Int) (hb : 1 ≤ b) : fdivI a b * b ≤ a ∧ a < (fdivI a b + 1) * b ∧ a - b < fdivI a b * b ∧ (fdivI a b + 1) * b = fdivI a b * b + b := by
  have e1 : fdivI a b = a / b := by unfold fdivI; rw [if_neg (by omega)]
  rw [e1]
  have e := Int.mul_ediv_add_emod a b
  have bd := emod_bd a b hb
  have e2 : a / b * b = a - a % b := by rw [Int.mul_comm]; omega
  have e3 : (a / b + 1) * b = a / b * b + b := by rw [Int.add_mul, Int.one_mul]
  rw [e3, e2]
  omega

theorem quot_near (a b : Int) (hb : 1 ≤ b) : 2 * absI (a - rdivI a b * b) ≤ b ∧ 2 * (rdivI a b * b - a) ≤ b ∧ (2 * absI (a - rdivI a b * b) < b ∨ a < rdivI a b * b) ∧ 0 ≤ absI (a - rdivI a b * b) ∧ a - b ≤ rdivI a b * b ∧ rdivI a b * b ≤ a + b := by
  have e := Int.mul_ediv_add_emod a b
  have bd := emod_bd a b hb
  have e2 : a / b * b = a - a % b := by rw [Int.mul_comm]; omega
  have e3 : (a / b + 1) * b = a / b * b + b := by rw [Int.add_mul, Int.one_mul]
  by_cases hc : b - a % b ≤ a % b
  · have e1 : rdivI a b = a / b + 1 := by unfold rdivI; rw [if_neg (by omega), if_pos hc]
    rw [e1, e3, e2]
    have : absI (a - (a - a % b + b)) = b - a % b := by unfold absI; split <;> omega
    rw [this]
    omega
  · have e1 : rdivI a b = a / b := by unfold rdivI; rw [if_neg (by omega), if_neg hc]
    rw [e1, e2]
    have : absI (a - (a - a % b)) = a % b := by unfold absI; split <;> omega
    rw [this]
    omega

theorem prod_bd {x y : Int} (h1 : 0 ≤ x ∧ x < 10000) (h2 : 0 ≤ y ∧ y < 10000) : 0 ≤ x * y ∧ x * y ≤ 99980001 :=
  ⟨Int.mul_nonneg h1.1 h2.1, by have := Int.mul_le_mul (show x ≤ 9999 by omega) (show y ≤ 9999 by omega) h2.1 (by decide); omega⟩

theorem next_sq (s : Int) : (s + 1) * (s + 1) = s * s + 2 * s + 1 := by rw [Int.add_mul, Int.mul_add]; omega

theorem root_small {n s : Int} (h : IsRoot n s) (hn : n ≤ 99980001) : s ≤ 9999 := by
  by_cases hs : s ≤ 9999
  · exact hs
  · have := sq_mono (a := 10000) (b := s) (by omega) (by omega)
    have := h.sq
    omega

theorem fac_small {q b : Int} (hb : 1 ≤ b) (h0 : -1000000000 ≤ q * b) (h1 : q * b ≤ 1000000000) : -1000000000 ≤ q ∧ q ≤ 1000000000 := by
  by_cases hq : 0 ≤ q
  · have := Int.mul_le_mul_of_nonneg_left hb hq
    rw [Int.mul_one] at this
    omega
  · have := Int.mul_le_mul_of_nonpos_left (show q ≤ 0 by omega) hb
    rw [Int.mul_one] at this
    omega

/-- A place of the drawn ones. -/
theorem place_at {w : World} {base : Nat} {p : List Nat} {gp cap : Nat} (h : w.ownsRow base 3 1 (.slice (some ⟨gp, 0, none⟩) p.length cap) p.length (p.map Nv)) (hp : ∀ x ∈ p, x < 10000) (i : Nat) (hi : i < p.length) :
    ∃ x : Int, (0 ≤ x ∧ x < 10000) ∧ w.cell? ⟨gp, i, none⟩ = some (.int .i64 x) := by
  have hm := List.getElem_mem hi
  have := hp _ hm
  refine ⟨((p[i] : Nat) : Int), ⟨by omega, by omega⟩, ?_⟩
  rw [h.cellAt i (by omega), List.getElem?_map, List.getElem?_eq_getElem hi]
  rfl

set_option maxHeartbeats 2000000 in
theorem fnQuotients_walk (a0 : Option Addr) (len0 cap0 : Nat) (z0 : List Int) (w : World) (w0 : IsRow .u8 w a0 len0 cap0 z0) :
    Calls Try.prog 3 #[.slice a0 len0 cap0] w fun e w' => e = .returned (.bool true) ∧ Below w.heap.size w w' := by
  by_cases hl : len0 ≤ 1048576
  · have HI := hide (InB.of_row w0)
    clear w0
    go_enter Try.func3, Try.ntmps3
    dsimp only [List.append]
    go_wp2_with fail
    refine (big_no a0 len0 cap0 hl _).mono ?_
    rintro e w1 ⟨rfl, rfl⟩
    go_wp2_with fail
    refine (drawPlaces_any a0 len0 cap0 _ hl (unhide HI)).mono ?_
    rintro e w3 ⟨vp, p, hp12, hpb, rfl, hop, hb3⟩
    have B3 := hide hb3
    have OP := hide hop
    clear hop hb3
    obtain ⟨pp, pc, rfl, _, _, _, hpp⟩ := row_form (unhide OP)
    obtain ⟨gp, rfl, hgp1, hgp2⟩ := hpp (by omega)
    obtain ⟨x0, hx0, c0⟩ := place_at (unhide OP) hpb 0 (by omega)
    obtain ⟨x1, hx1, c1⟩ := place_at (unhide OP) hpb 1 (by omega)
    obtain ⟨x2, hx2, c2⟩ := place_at (unhide OP) hpb 2 (by omega)
    obtain ⟨x3, hx3, c3⟩ := place_at (unhide OP) hpb 3 (by omega)
    obtain ⟨x4, hx4, c4⟩ := place_at (unhide OP) hpb 4 (by omega)
    obtain ⟨x5, hx5, c5⟩ := place_at (unhide OP) hpb 5 (by omega)
    obtain ⟨x6, hx6, c6⟩ := place_at (unhide OP) hpb 6 (by omega)
    rw [hp12]
    clear hpb
    obtain ⟨q1, q2⟩ := prod_bd hx0 hx1
    obtain ⟨q3, q4⟩ := prod_bd hx2 hx3
    obtain ⟨q5, q6⟩ := prod_bd hx5 hx6
    obtain ⟨hx40, _⟩ := hx4
    clear hx0 hx1 hx2 hx3 hx5 hx6
    go_wp2_with fail
    go_region
    go_wp2_with fail
    have hB1 : 1 ≤ 1 + x4 % 300 ∧ 1 + x4 % 300 ≤ 300 := by omega
    have hA1 : -99980001 ≤ x0 * x1 - x2 * x3 ∧ x0 * x1 - x2 * x3 ≤ 99980001 := by omega
    obtain ⟨A, hA⟩ : ∃ A, A = x0 * x1 - x2 * x3 := ⟨_, rfl⟩
    obtain ⟨B, hB⟩ : ∃ B, B = 1 + x4 % 300 := ⟨_, rfl⟩
    rw [← hA, ← hB]
    rw [← hA] at hA1
    rw [← hB] at hB1
    clear hA hB q1 q2 q3 q4
    obtain ⟨A1, A2⟩ := hA1
    obtain ⟨B1, B2⟩ := hB1
    obtain ⟨d1, d2, d3, d4⟩ := quot_down A B B1
    obtain ⟨n1, n2, n3, n4, n5, n6⟩ := quot_near A B B1
    have h1 := implFloorDiv_any A B (by omega) (by omega) (by omega)
    have h2 := implRoundDiv_any A B (by omega) (by omega) (by omega)
    obtain ⟨q, hq⟩ : ∃ q, q = fdivI A B := ⟨_, rfl⟩
    obtain ⟨r, hr⟩ : ∃ r, r = rdivI A B := ⟨_, rfl⟩
    obtain ⟨k, hk⟩ : ∃ k, k = absI (A - rdivI A B * B) := ⟨_, rfl⟩
    rw [← hq] at d1 d2 d3 d4 h1
    rw [← hk] at n1 n3 n4
    rw [← hr] at n2 n3 n5 n6 h2 hk
    have h3 := lawsAbs_any (A - r * B) (by omega) (by omega)
    rw [← hk] at h3
    have h4 := implFloorDiv_any A 0 (by omega) (by omega) (by omega)
    have h5 := implRoundDiv_any (-7) 2 (by omega) (by omega) (by omega)
    rw [show fdivI A 0 = 0 from rfl] at h4
    rw [show rdivI (-7) 2 = -3 from by decide] at h5
    have H1 := hide h1
    have H2 := hide h2
    have H3 := hide h3
    have H4 := hide h4
    have H5 := hide h5
    clear h1 h2 h3 h4 h5 hq hr hk
    refine (unhide H1 _).mono ?_
    rintro e w4 ⟨rfl, hb4⟩
    replace c5 := kc hb4 (p := ⟨gp, 5, none⟩) c5
    replace c6 := kc hb4 (p := ⟨gp, 6, none⟩) c6
    have B4 := hide (below_after hb4 ((unhide B3).drew) (Nat.le_refl _))
    clear hb4
    go_wp2_with fail
    refine (unhide H2 _).mono ?_
    rintro e w5 ⟨rfl, hb5⟩
    replace c5 := kc hb5 c5
    replace c6 := kc hb5 c6
    have B5 := hide (below_after hb5 (unhide B4) (Nat.le_refl _))
    clear hb5 B4
    go_wp2_with fail
    go_region
    go_wp2_with fail
    refine (implRootOf_any (x5 * x6) q5 (by omega) _).mono ?_
    rintro e w6 ⟨s, hs, rfl, hb6⟩
    have B6 := hide (below_after hb6 ((unhide B5).drew) (Nat.le_refl _))
    clear hb6 B5
    have s1 := root_small hs q6
    have s2 := next_sq s
    obtain ⟨s3, _, s5, s6⟩ := hs
    have s7 : 0 ≤ s * s := Int.mul_nonneg s3 s3
    have hR : IsRoot (s * s) s := ⟨s3, by omega, by omega, by omega⟩
    have HR := hide hR
    clear hR
    have d5 : (q + 1) * B ≤ 99980301 := by omega
    have s8 : (s + 1) * (s + 1) ≤ 100000000 := by omega
    have n3h := hide n3
    obtain ⟨qs1, qs2⟩ := fac_small (q := q) B1 (by omega) (by omega)
    clear d4 s2 n3
    have t1 : decide (q * B ≤ A) = true := decide_eq_true d1
    have t2 : decide (A < (q + 1) * B) = true := decide_eq_true d2
    have t3 : decide (2 * k ≤ B) = true := decide_eq_true n1
    have t4 : decide (2 * (r * B - A) ≤ B) = true := decide_eq_true n2
    have t7 : decide (s * s ≤ x5 * x6) = true := decide_eq_true s5
    have t8 : decide (x5 * x6 < (s + 1) * (s + 1)) = true := decide_eq_true s6
    have R2 := hide (implRootOf_any (s * s) s7 (by omega))
    by_cases hk : 2 * k < B
    · have t5 : decide (2 * k < B) = true := decide_eq_true hk
      go_wp2_with (first
        | (go_at_call 14; go_must (refine (unhide H3 _).mono ?_; rintro e w7 ⟨rfl, rfl⟩))
        | (go_at_call 13; go_must (refine (unhide R2 _).mono ?_; rintro e w7 ⟨s', hs', rfl, hb7⟩; obtain rfl := IsRoot.unique hs' (unhide HR); clear hs'))
        | (go_at_call 11; go_must (refine (unhide H4 _).mono ?_; rintro e w8 ⟨rfl, hb8⟩))
        | (go_at_call 12; go_must (refine (unhide H5 _).mono ?_; rintro e w9 ⟨rfl, hb9⟩)))
      go_ret
      exact ⟨by simp, below_after hb9 (below_after hb8 (below_after hb7 (unhide B6) (Nat.le_refl _)) (Nat.le_refl _)) (Nat.le_refl _)⟩
    · have t5 : decide (2 * k < B) = false := decide_eq_false hk
      have t6 : decide (A < r * B) = true := decide_eq_true (by have := unhide n3h; omega)
      go_wp2_with (first
        | (go_at_call 14; go_must (refine (unhide H3 _).mono ?_; rintro e w7 ⟨rfl, rfl⟩))
        | (go_at_call 13; go_must (refine (unhide R2 _).mono ?_; rintro e w7 ⟨s', hs', rfl, hb7⟩; obtain rfl := IsRoot.unique hs' (unhide HR); clear hs'))
        | (go_at_call 11; go_must (refine (unhide H4 _).mono ?_; rintro e w8 ⟨rfl, hb8⟩))
        | (go_at_call 12; go_must (refine (unhide H5 _).mono ?_; rintro e w9 ⟨rfl, hb9⟩)))
      go_ret
      exact ⟨by simp, below_after hb9 (below_after hb8 (below_after hb7 (unhide B6) (Nat.le_refl _)) (Nat.le_refl _)) (Nat.le_refl _)⟩
  · go_enter Try.func3, Try.ntmps3
    go_wp2_with (go_at_call 9; go_must (refine (big_yes a0 len0 cap0 hl _).mono ?_); rintro e w1 ⟨rfl, rfl⟩)
    go_ret
    exact ⟨rfl, Below.refl _ _⟩
end Go.Proofs.Ytmhbkbbcmjijaaa
