/-
  The walks of the program's chapter 3: divisions by a generic type, roots bit by bit.
-/
import Derived.Test.YthelfgippiimiabDivI
namespace Go.Proofs.Ythelfgippiimiab
open Go.RowKit

theorem implRoundDiv_any (a b : Int) (a0 : -9223372036854775808 ≤ a) (a1 : a ≤ 9223372036854775807) (b1 : b ≤ 9223372036854775807) (w : World) :
    Calls Try.prog 105 #[.int .i64 a, .int .i64 b] w fun e w' => e = .returned (.int .i64 (rdivI a b)) ∧ Below w.heap.size w w' := by
  have HD := hide (implDivide_any a b a0 a1 b1)
  have H : Hid ((if dBy b - dRest a b ≤ dRest a b then dDown a b + 1 else dDown a b) = rdivI a b) := by
    unfold Hid dBy dRest dDown rdivI
    by_cases hb : b < 1
    · rw [if_pos hb, if_pos hb, if_pos hb, if_pos hb]; rfl
    · rw [if_neg hb, if_neg hb, if_neg hb, if_neg hb]
  have HN := hide (implNearest_any (dDown a b) (dRest a b) (dBy b) (by
      unfold dRest; by_cases hb : b < 1
      · rw [if_pos hb]; exact Int.le_refl 0
      · rw [if_neg hb]; exact (emod_bd a b (by omega)).1) (by
      unfold dRest dBy; by_cases hb : b < 1
      · rw [if_pos hb, if_pos hb]; decide
      · rw [if_neg hb, if_neg hb]; exact (emod_bd a b (by omega)).2) (by
      unfold dBy; by_cases hb : b < 1
      · rw [if_pos hb]; decide
      · rw [if_neg hb]; exact b1) (by
      unfold dDown; by_cases hb : b < 1
      · rw [if_pos hb]; decide
      · rw [if_neg hb]; exact (floor_fit (by omega) a0 a1).1) (by
      unfold dRest dBy dDown; by_cases hb : b < 1
      · rw [if_pos hb, if_pos hb, if_pos hb]; decide
      · rw [if_neg hb, if_neg hb, if_neg hb]; exact rdiv_fit (by omega) a0 a1))
  generalize (if dBy b - dRest a b ≤ dRest a b then dDown a b + 1 else dDown a b) = z at H HN
  go_enter Try.func105, Try.ntmps105
  go_wp2_with fail
  refine (unhide HD _).mono ?_
  rintro e w1 ⟨rfl, hb1⟩
  go_wp2_with fail
  refine (unhide HN _).mono ?_
  rintro e w2 ⟨rfl, hb2⟩
  go_wp2
  go_ret
  exact ⟨ret_i64 (unhide H), below_after hb2 hb1 (Nat.le_refl _)⟩

theorem implClamp_any (x low high : Int) (w : World) :
    Calls Try.prog 100 #[.int .i64 x, .int .i64 low, .int .i64 high] w fun e w' => e = .returned (.int .i64 (clampI x low high)) ∧ w' = w := by
  by_cases h1 : x < low
  · have H : Hid (low = clampI x low high) := by unfold Hid clampI; rw [if_pos h1]
    go_enter Try.func100, Try.ntmps100
    go_wp2
    go_ret
    exact ⟨ret_i64 (unhide H), rfl⟩
  · by_cases h2 : high < x
    · have H : Hid (high = clampI x low high) := by unfold Hid clampI; rw [if_neg h1, if_pos h2]
      go_enter Try.func100, Try.ntmps100
      go_wp2
      go_ret
      exact ⟨ret_i64 (unhide H), rfl⟩
    · have H : Hid (x = clampI x low high) := by unfold Hid clampI; rw [if_neg h1, if_neg h2]
      go_enter Try.func100, Try.ntmps100
      go_wp2
      go_ret
      exact ⟨ret_i64 (unhide H), rfl⟩


set_option maxHeartbeats 1000000 in
theorem implTimes255_any (a b : Int) (w : World) :
    Calls Try.prog 94 #[.int .i64 a, .int .i64 b] w fun e w' => e = .returned (.int .i64 (t255I a b)) ∧ Below w.heap.size w w' := by
  have ca := clamp255 a
  have cb := clamp255 b
  have hA := implClamp_any a 0 255
  have hB := implClamp_any b 0 255
  have e : t255I a b = rdivI (clampI a 0 255 * clampI b 0 255) 255 := rfl
  obtain ⟨x, hx⟩ : ∃ x, x = clampI a 0 255 := ⟨_, rfl⟩
  obtain ⟨y, hy⟩ : ∃ y, y = clampI b 0 255 := ⟨_, rfl⟩
  rw [← hx, ← hy] at e
  rw [← hx] at ca hA
  rw [← hy] at cb hB
  have HE := hide e
  obtain ⟨p1, p2⟩ := prod255 ca cb
  have HA := hide hA
  have HB := hide hB
  have HR := hide (implRoundDiv_any (x * y) 255 (by omega) (by omega) (by omega))
  clear hA hB e hx hy
  go_enter Try.func94, Try.ntmps94
  go_wp2_with fail
  refine (unhide HA _).mono ?_
  rintro e w1 ⟨rfl, rfl⟩
  go_wp2_with fail
  refine (unhide HB _).mono ?_
  rintro e w2 ⟨rfl, rfl⟩
  go_wp2_with fail
  refine (unhide HR _).mono ?_
  rintro e w3 ⟨rfl, hb3⟩
  go_wp2
  go_ret
  exact ⟨ret_i64 (by rw [unhide HE]), hb3⟩

/-- A power of two. -/
def PowB (b : Int) : Prop := ∃ p : Nat, b = 2 ^ p
theorem PowB.half {b : Int} (h : PowB b) : (b = 1) ∨ (PowB (b / 2) ∧ 2 * (b / 2) = b ∧ 1 ≤ b / 2) := by
  obtain ⟨p, rfl⟩ := h
  cases p with
  | zero => exact .inl rfl
  | succ p =>
    have e : (2 : Int) ^ (p + 1) / 2 = 2 ^ p := by rw [Int.pow_succ]; exact Int.mul_ediv_cancel _ (by decide)
    refine .inr ⟨⟨p, e⟩, ?_, ?_⟩
    · rw [e, Int.pow_succ, Int.mul_comm]
    · rw [e]; exact Int.pow_pos (by decide)

/-- Where the root stands while the bits go down. -/
structure RootAt (n r b : Int) : Prop where
  pos : 0 ≤ r
  bit : 0 ≤ b
  pow : b = 0 ∨ PowB b
  room : r + 2 * b ≤ 4294967296
  sq : r * r ≤ n
  next : n < (r + (if b = 0 then 1 else 2 * b)) * (r + (if b = 0 then 1 else 2 * b))

theorem le_fdiv {n m : Int} (hm : 1 ≤ m) : m ≤ fdivI n m ↔ m * m ≤ n := by
  unfold fdivI
  rw [if_neg (by omega), Int.le_ediv_iff_mul_le (by omega)]

theorem rootAt_step {n r b : Int} (h : RootAt n r b) (hb : 0 < b) (t : Int) (ht : (r + b) * (r + b) ≤ n ∧ t = r + b ∨ ¬ (r + b) * (r + b) ≤ n ∧ t = r) : RootAt n t (b / 2) := by
  obtain ⟨h1, h2, h3, h4, h5, h6⟩ := h
  rw [if_neg (by omega)] at h6
  have hp : PowB b := h3.resolve_left (by omega)
  have ht0 : 0 ≤ t := by omega
  have hsq : t * t ≤ n := by rcases ht with ⟨a, rfl⟩ | ⟨_, rfl⟩ <;> assumption
  have hnx : n < (t + b) * (t + b) := by
    rcases ht with ⟨_, rfl⟩ | ⟨a, rfl⟩
    · rw [show r + b + b = r + 2 * b by omega]; exact h6
    · omega
  rcases hp.half with rfl | ⟨k1, k2, k3⟩
  · exact ⟨ht0, by decide, .inl (by decide), by omega, hsq, by rw [if_pos (by decide)]; exact hnx⟩
  · refine ⟨ht0, by omega, .inr k1, by omega, hsq, ?_⟩
    rw [if_neg (by omega), k2]; exact hnx

theorem rootAt_end {n r : Int} (h : RootAt n r 0) (hn : n ≤ 9223372036854775807) : IsRoot n r := by
  obtain ⟨h1, h2, h3, h4, h5, h6⟩ := h
  rw [if_pos rfl] at h6
  refine ⟨h1, ?_, h5, h6⟩
  by_cases hc : r ≤ 3037000499
  · exact hc
  · have := sq_mono (a := 3037000500) (b := r) (by omega) (by omega); omega

end Go.Proofs.Ythelfgippiimiab
