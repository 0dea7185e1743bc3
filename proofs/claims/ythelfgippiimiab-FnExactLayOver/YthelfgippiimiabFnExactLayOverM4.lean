/-
  FixI · NearM · PlaceI · AllR · CurveM · LinesM · WindP · MaskP · PaintMP · SurfY: texts of one claim, in one.
-/
import Derived.Test.YthelfgippiimiabFnExactLayOverM3
import Derived.Test.YthelfgippiimiabFnExactLayOverM1
import Derived.Deep.RegionHeld3
import Derived.Laws.StructEq
import Derived.KernelRfl
import Derived.Test.YthelfgippiimiabFnExactLayOverM2

/-
  The walks of the program's chapter 3: divisions by a generic type, roots bit by bit.
-/
namespace Go.Proofs.Ythelfgippiimiab
open Go.RowKit

theorem implRoundDiv_any (a b : Int) (a0 : -9223372036854775808 ≤ a) (a1 : a ≤ 9223372036854775807) (b1 : b ≤ 9223372036854775807) (w : World) :
    Calls Try.prog 105 #[.int .i64 a, .int .i64 b] w fun e w' => e = .returned (.int .i64 (rdivI a b)) ∧ Below w.heap.size w w' := by
  have HD := hide (implDivide_any a b a0 a1 b1)
  have H : Hid ((if dBy b - dRest a b ≤ dRest a b then dDown a b + 1 else dDown a b) = rdivI a b) := by
    unfold Hid dBy dRest dDown rdivI
    by_cases hb : b < 1
    · rw [if_pos hb, if_pos hb, if_pos hb, if_pos hb]; rfl
    · rw [if_neg hb, if_neg hb, if_neg hb, if_neg hb]
  have HN := hide (implNearest_any (dDown a b) (dRest a b) (dBy b) (by
      unfold dRest; by_cases hb : b < 1
      · rw [if_pos hb]; exact Int.le_refl 0
      · rw [if_neg hb]; exact (emod_bd a b (by omega)).1) (by
      unfold dRest dBy; by_cases hb : b < 1
      · rw [if_pos hb, if_pos hb]; decide
      · rw [if_neg hb, if_neg hb]; exact (emod_bd a b (by omega)).2) (by
      unfold dBy; by_cases hb : b < 1
      · rw [if_pos hb]; decide
      · rw [if_neg hb]; exact b1) (by
      unfold dDown; by_cases hb : b < 1
      · rw [if_pos hb]; decide
      · rw [if_neg hb]; exact (floor_fit (by omega) a0 a1).1) (by
      unfold dRest dBy dDown; by_cases hb : b < 1
      · rw [if_pos hb, if_pos hb, if_pos hb]; decide
      · rw [if_neg hb, if_neg hb, if_neg hb]; exact rdiv_fit (by omega) a0 a1))
  generalize (if dBy b - dRest a b ≤ dRest a b then dDown a b + 1 else dDown a b) = z at H HN
  go_enter Try.func105, Try.ntmps105
  go_wp2_with fail
  refine (unhide HD _).mono ?_
  rintro e w1 ⟨rfl, hb1⟩
  go_wp2_with fail
  refine (unhide HN _).mono ?_
  rintro e w2 ⟨rfl, hb2⟩
  go_wp2
  go_ret
  exact ⟨ret_i64 (unhide H), below_after hb2 hb1 (Nat.le_refl _)⟩

theorem implClamp_any (x low high : Int) (w : World) :
    Calls Try.prog 100 #[.int .i64 x, .int .i64 low, .int .i64 high] w fun e w' => e = .returned (.int .i64 (clampI x low high)) ∧ w' = w := by
  by_cases h1 : x < low
  · have H : Hid (low = clampI x low high) := by unfold Hid clampI; rw [if_pos h1]
    go_enter Try.func100, Try.ntmps100
    go_wp2
    go_ret
    exact ⟨ret_i64 (unhide H), rfl⟩
  · by_cases h2 : high < x
    · have H : Hid (high = clampI x low high) := by unfold Hid clampI; rw [if_neg h1, if_pos h2]
      go_enter Try.func100, Try.ntmps100
      go_wp2
      go_ret
      exact ⟨ret_i64 (unhide H), rfl⟩
    · have H : Hid (x = clampI x low high) := by unfold Hid clampI; rw [if_neg h1, if_neg h2]
      go_enter Try.func100, Try.ntmps100
      go_wp2
      go_ret
      exact ⟨ret_i64 (unhide H), rfl⟩


set_option maxHeartbeats 1000000 in
theorem implTimes255_any (a b : Int) (w : World) :
    Calls Try.prog 94 #[.int .i64 a, .int .i64 b] w fun e w' => e = .returned (.int .i64 (t255I a b)) ∧ Below w.heap.size w w' := by
  have ca := clamp255 a
  have cb := clamp255 b
  have hA := implClamp_any a 0 255
  have hB := implClamp_any b 0 255
  have e : t255I a b = rdivI (clampI a 0 255 * clampI b 0 255) 255 := rfl
  obtain ⟨x, hx⟩ : ∃ x, x = clampI a 0 255 := ⟨_, rfl⟩
  obtain ⟨y, hy⟩ : ∃ y, y = clampI b 0 255 := ⟨_, rfl⟩
  rw [← hx, ← hy] at e
  rw [← hx] at ca hA
  rw [← hy] at cb hB
  have HE := hide e
  obtain ⟨p1, p2⟩ := prod255 ca cb
  have HA := hide hA
  have HB := hide hB
  have HR := hide (implRoundDiv_any (x * y) 255 (by omega) (by omega) (by omega))
  clear hA hB e hx hy
  go_enter Try.func94, Try.ntmps94
  go_wp2_with fail
  refine (unhide HA _).mono ?_
  rintro e w1 ⟨rfl, rfl⟩
  go_wp2_with fail
  refine (unhide HB _).mono ?_
  rintro e w2 ⟨rfl, rfl⟩
  go_wp2_with fail
  refine (unhide HR _).mono ?_
  rintro e w3 ⟨rfl, hb3⟩
  go_wp2
  go_ret
  exact ⟨ret_i64 (by rw [unhide HE]), hb3⟩

/-- A power of two. -/
def PowB (b : Int) : Prop := ∃ p : Nat, b = 2 ^ p
theorem PowB.half {b : Int} (h : PowB b) : (b = 1) ∨ (PowB (b / 2) ∧ 2 * (b / 2) = b ∧ 1 ≤ b / 2) := by
  obtain ⟨p, rfl⟩ := h
  cases p with
  | zero => exact .inl rfl
  | succ p =>
    have e : (2 : Int) ^ (p + 1) / 2 = 2 ^ p := by rw [Int.pow_succ]; exact Int.mul_ediv_cancel _ (by decide)
    refine .inr ⟨⟨p, e⟩, ?_, ?_⟩
    · rw [e, Int.pow_succ, Int.mul_comm]
    · rw [e]; exact Int.pow_pos (by decide)

/-- Where the root stands while the bits go down. -/
structure RootAt (n r b : Int) : Prop where
  pos : 0 ≤ r
  bit : 0 ≤ b
  pow : b = 0 ∨ PowB b
  room : r + 2 * b ≤ 4294967296
  sq : r * r ≤ n
  next : n < (r + (if b = 0 then 1 else 2 * b)) * (r + (if b = 0 then 1 else 2 * b))

theorem le_fdiv {n m : Int} (hm : 1 ≤ m) : m ≤ fdivI n m ↔ m * m ≤ n := by
  unfold fdivI
  rw [if_neg (by omega), Int.le_ediv_iff_mul_le (by omega)]

theorem rootAt_step {n r b : Int} (h : RootAt n r b) (hb : 0 < b) (t : Int) (ht : (r + b) * (r + b) ≤ n ∧ t = r + b ∨ ¬ (r + b) * (r + b) ≤ n ∧ t = r) : RootAt n t (b / 2) := by
  obtain ⟨h1, h2, h3, h4, h5, h6⟩ := h
  rw [if_neg (by omega)] at h6
  have hp : PowB b := h3.resolve_left (by omega)
  have ht0 : 0 ≤ t := by omega
  have hsq : t * t ≤ n := by rcases ht with ⟨a, rfl⟩ | ⟨_, rfl⟩ <;> assumption
  have hnx : n < (t + b) * (t + b) := by
    rcases ht with ⟨_, rfl⟩ | ⟨a, rfl⟩
    · rw [show r + b + b = r + 2 * b by omega]; exact h6
    · omega
  rcases hp.half with rfl | ⟨k1, k2, k3⟩
  · exact ⟨ht0, by decide, .inl (by decide), by omega, hsq, by rw [if_pos (by decide)]; exact hnx⟩
  · refine ⟨ht0, by omega, .inr k1, by omega, hsq, ?_⟩
    rw [if_neg (by omega), k2]; exact hnx

theorem rootAt_end {n r : Int} (h : RootAt n r 0) (hn : n ≤ 9223372036854775807) : IsRoot n r := by
  obtain ⟨h1, h2, h3, h4, h5, h6⟩ := h
  rw [if_pos rfl] at h6
  refine ⟨h1, ?_, h5, h6⟩
  by_cases hc : r ≤ 3037000499
  · exact hc
  · have := sq_mono (a := 3037000500) (b := r) (by omega) (by omega); omega

end Go.Proofs.Ythelfgippiimiab

/-
  The walk of the program's nearMat.
-/
namespace Go.Proofs.Ythelfgippiimiab
open Go.RowKit

theorem cell_drew (w : World) (p : Addr) : w.drew.cell? p = w.cell? p := rfl

set_option maxHeartbeats 2000000 in
set_option maxRecDepth 100000 in
theorem implNearMat_any (a b c d e f : Int) (w : World) :
    Calls Try.prog 77 #[.agg #[.int .i64 a, .int .i64 b, .int .i64 c, .int .i64 d, .int .i64 e, .int .i64 f]] w fun r w' => r = .returned (.agg #[.int .i64 (clampI a (-1048576) 1048576), .int .i64 (clampI b (-1048576) 1048576), .int .i64 (clampI c (-1048576) 1048576), .int .i64 (clampI d (-1048576) 1048576), .int .i64 (clampI e (-8388608) 8388608), .int .i64 (clampI f (-8388608) 8388608)]) ∧ Below w.heap.size w w' := by
  have K := hide implClamp_any
  generalize clampI = cl at K ⊢
  go_enter Try.func77, Try.ntmps77
  go_wp2_with fail
  obtain ⟨W, hW⟩ : ∃ W, W = (w.alloc (.cells #[.int .i64 a, .int .i64 b, .int .i64 c, .int .i64 d, .int .i64 e, .int .i64 f] 32)).alloc (.cells #[.int .i64 0, .int .i64 0, .int .i64 0, .int .i64 0, .int .i64 0, .int .i64 0] 32) := ⟨_, rfl⟩
  have A : W.heap[w.heap.size]? = some (.cells #[.int .i64 a, .int .i64 b, .int .i64 c, .int .i64 d, .int .i64 e, .int .i64 f] 32 (0, 0)) := by rw [hW]; exact al2_0 _ _ _
  have R : W.heap[w.heap.size + 1]? = some (.cells #[.int .i64 0, .int .i64 0, .int .i64 0, .int .i64 0, .int .i64 0, .int .i64 0] 32 (0, 0)) := by rw [hW]; exact al2_1 _ _ _
  have HB := hide (show Below w.heap.size w W by rw [hW]; exact al2_below _ _ _)
  rw [← hW]
  clear hW
  have B0 : w.heap.size + 1 ≤ W.heap.size := by have := heap_lt R; omega
  have k0 : ∀ u, Below (w.heap.size + 1) W u → (u.cell? ⟨w.heap.size, 0, none⟩ = some (.int .i64 a) ∧ u.cell? ⟨w.heap.size, 1, none⟩ = some (.int .i64 b) ∧ u.cell? ⟨w.heap.size, 2, none⟩ = some (.int .i64 c) ∧ u.cell? ⟨w.heap.size, 3, none⟩ = some (.int .i64 d) ∧ u.cell? ⟨w.heap.size, 4, none⟩ = some (.int .i64 e) ∧ u.cell? ⟨w.heap.size, 5, none⟩ = some (.int .i64 f) ∧ Below (w.heap.size + 1) W u) := fun u h => by
    have A' := (h.block _ (by omega)).trans A
    obtain ⟨m0, m1, m2, m3, m4, m5⟩ := row6 A'
    exact ⟨m0, m1, m2, m3, m4, m5, h⟩
  obtain ⟨r0, r1, r2, r3, r4, r5⟩ := row6 R
  obtain ⟨f0, f1, f2, f3, f4, f5⟩ := free6 R
  clear A R
  go_region_held3 (fun u => u.cell? ⟨w.heap.size, 0, none⟩ = some (.int .i64 a) ∧ u.cell? ⟨w.heap.size, 1, none⟩ = some (.int .i64 b) ∧ u.cell? ⟨w.heap.size, 2, none⟩ = some (.int .i64 c) ∧ u.cell? ⟨w.heap.size, 3, none⟩ = some (.int .i64 d) ∧ u.cell? ⟨w.heap.size, 4, none⟩ = some (.int .i64 e) ∧ u.cell? ⟨w.heap.size, 5, none⟩ = some (.int .i64 f) ∧ Below (w.heap.size + 1) W u) ((refine k0 _ ?_; first | with_reducible exact (Below.refl _ _).drew | with_reducible assumption | (with_reducible refine Below.drew ?_; with_reducible refine below_put6 ?_ (Nat.le_refl _) _ _ _ _ _ _; with_reducible exact Below.refl _ _))) (first | (go_at_call 100; refine (unhide K _ _ _ _).mono ?_; rintro r w4 ⟨rfl, rfl⟩))
  all_goals
    rename_i hH
    clear hH
    obtain ⟨V, hV⟩ : ∃ V, V = (((((((W.setCell ⟨w.heap.size + 1, 0, none⟩ (.int .i64 (cl a (-1048576) 1048576))).setCell ⟨w.heap.size + 1, 1, none⟩ (.int .i64 (cl b (-1048576) 1048576))).setCell ⟨w.heap.size + 1, 2, none⟩ (.int .i64 (cl c (-1048576) 1048576))).setCell ⟨w.heap.size + 1, 3, none⟩ (.int .i64 (cl d (-1048576) 1048576))).setCell ⟨w.heap.size + 1, 4, none⟩ (.int .i64 (cl e (-8388608) 8388608))).setCell ⟨w.heap.size + 1, 5, none⟩ (.int .i64 (cl f (-8388608) 8388608))).drew) := ⟨_, rfl⟩
    rw [← hV]
    have q0 : V.cell? ⟨w.heap.size + 1, 0, none⟩ = some (.int .i64 (cl a (-1048576) 1048576)) := by rw [hV, cell_drew]; with_reducible exact put6_0 r0 _ _ _ _ _ _
    have q1 : V.cell? ⟨w.heap.size + 1, 1, none⟩ = some (.int .i64 (cl b (-1048576) 1048576)) := by rw [hV, cell_drew]; with_reducible exact put6_1 r1 _ _ _ _ _ _
    have q2 : V.cell? ⟨w.heap.size + 1, 2, none⟩ = some (.int .i64 (cl c (-1048576) 1048576)) := by rw [hV, cell_drew]; with_reducible exact put6_2 r2 _ _ _ _ _ _
    have q3 : V.cell? ⟨w.heap.size + 1, 3, none⟩ = some (.int .i64 (cl d (-1048576) 1048576)) := by rw [hV, cell_drew]; with_reducible exact put6_3 r3 _ _ _ _ _ _
    have q4 : V.cell? ⟨w.heap.size + 1, 4, none⟩ = some (.int .i64 (cl e (-8388608) 8388608)) := by rw [hV, cell_drew]; with_reducible exact put6_4 r4 _ _ _ _ _ _
    have q5 : V.cell? ⟨w.heap.size + 1, 5, none⟩ = some (.int .i64 (cl f (-8388608) 8388608)) := by rw [hV, cell_drew]; with_reducible exact put6_5 r5 _ _ _ _ _ _
    have HV := hide (show Below w.heap.size w V by rw [hV]; exact (below_put6 (unhide HB) (by omega) _ _ _ _ _ _).drew)
    clear hV r0 r1 r2 r3 r4 r5 f0 f1 f2 f3 f4 f5 k0
    go_wp2_with fail
    refine bodyPost_ret (v := .agg #[.int .i64 (cl a (-1048576) 1048576), .int .i64 (cl b (-1048576) 1048576), .int .i64 (cl c (-1048576) 1048576), .int .i64 (cl d (-1048576) 1048576), .int .i64 (cl e (-8388608) 8388608), .int .i64 (cl f (-8388608) 8388608)]) (by simp [results, Try.results77, go_sem, q0, q1, q2, q3, q4, q5]) rfl ⟨rfl, unhide HV⟩

end Go.Proofs.Ythelfgippiimiab

/-
  The walks of the program's chapter 4: points and mats.
-/
namespace Go.Proofs.Ythelfgippiimiab
open Go.RowKit

theorem clamp_inB (x a b : Int) : decide (x = clampI x a b) = inB x a b := by
  unfold clampI inB
  by_cases h1 : x < a
  · have : ¬ a ≤ x := by omega
    simp [h1, this]
    omega
  · by_cases h2 : b < x
    · have h3 : ¬ x ≤ b := by omega
      simp [h1, h2, h3]
      omega
    · have h3 : x ≤ b := by omega
      have h4 : a ≤ x := by omega
      simp [h1, h2, h3, h4]

theorem eqlPoint (x y a b : Int) (w : World) : (Op.equalIn 10000 39 (.agg #[.int .i64 x, .int .i64 y]) (.agg #[.int .i64 a, .int .i64 b])).run Try.prog w = .ok (decide (x = a) && decide (y = b)) w := by
  have u3 := Try.underlying3
  have a3 := Try.isAgg3
  have z3 := Try.sizeOf3
  have hS : Try.prog.underlying 39 = some (.struct (Try.prog.fieldsOf 39)) := by kernel_rfl
  rw [show (10000 : Nat) = 9999 + 1 from rfl, run_equalIn_agg w 9999 39 _ _ hS (by kernel_rfl)]
  simp only [Program.fieldsOf, Try.underlying39]
  go_simp
  by_cases h1 : x = a <;> by_cases h2 : y = b <;> simp [h1, h2]

theorem eqlMat (a b c d e f g h i j k l : Int) (w : World) : (Op.equalIn 10000 32 (.agg #[.int .i64 a, .int .i64 b, .int .i64 c, .int .i64 d, .int .i64 e, .int .i64 f]) (.agg #[.int .i64 g, .int .i64 h, .int .i64 i, .int .i64 j, .int .i64 k, .int .i64 l])).run Try.prog w = .ok (decide (a = g) && (decide (b = h) && (decide (c = i) && (decide (d = j) && (decide (e = k) && decide (f = l)))))) w := by
  have u3 := Try.underlying3
  have a3 := Try.isAgg3
  have z3 := Try.sizeOf3
  have hS : Try.prog.underlying 32 = some (.struct (Try.prog.fieldsOf 32)) := by kernel_rfl
  rw [show (10000 : Nat) = 9999 + 1 from rfl, run_equalIn_agg w 9999 32 _ _ hS (by kernel_rfl)]
  simp only [Program.fieldsOf, Try.underlying32]
  go_simp
  by_cases h1 : a = g
  · by_cases h2 : b = h
    · by_cases h3 : c = i
      · by_cases h4 : d = j
        · by_cases h5 : e = k
          · by_cases h6 : f = l <;> simp [h1, h2, h3, h4, h5, h6]
          · simp [h1, h2, h3, h4, h5]
        · simp [h1, h2, h3, h4]
      · simp [h1, h2, h3]
    · simp [h1, h2]
  · simp [h1]

set_option maxHeartbeats 1000000 in
theorem implNearPoint_any (x y : Int) (w : World) :
    Calls Try.prog 111 #[.agg #[.int .i64 x, .int .i64 y]] w fun r w' => r = .returned (.agg #[.int .i64 (clampI x (-8388608) 8388608), .int .i64 (clampI y (-8388608) 8388608)]) ∧ Below w.heap.size w w' := by
  have K0 := hide (implClamp_any x (-8388608) 8388608)
  have K1 := hide (implClamp_any y (-8388608) 8388608)
  generalize clampI x (-8388608) 8388608 = o0 at K0 ⊢
  generalize clampI y (-8388608) 8388608 = o1 at K1 ⊢
  go_enter Try.func111, Try.ntmps111
  go_wp2_with fail
  obtain ⟨W, hW⟩ : ∃ W, W = (w.alloc (.cells #[.int .i64 x, .int .i64 y] 39)).alloc (.cells #[.int .i64 0, .int .i64 0] 39) := ⟨_, rfl⟩
  obtain ⟨a0, a1⟩ := row2 (w1 := W) (b := w.heap.size) (by rw [hW]; exact al2_0 _ _ _)
  have R : W.heap[w.heap.size + 1]? = some (.cells #[.int .i64 0, .int .i64 0] 39 (0, 0)) := by rw [hW]; exact al2_1 _ _ _
  obtain ⟨r0, r1⟩ := row2 R
  obtain ⟨f0, f1⟩ := free2 R
  have HB := hide (show Below w.heap.size w W by rw [hW]; exact al2_below _ _ _)
  rw [← hW]
  clear hW R
  have ne1 : ¬ w.heap.size + 1 = w.heap.size := by omega
  have ne2 : ¬ w.heap.size = w.heap.size + 1 := by omega
  go_region_held3 (fun u => u.cell? ⟨w.heap.size, 0, none⟩ = some (.int .i64 x) ∧ u.cell? ⟨w.heap.size, 1, none⟩ = some (.int .i64 y)) (go_keep) (first | (go_at_call 100; (first | go_fit (unhide K0 _) | go_fit (unhide K1 _)); rintro r w4 ⟨rfl, rfl⟩))
  all_goals
    go_wp2_with fail
    refine bodyPost_ret (v := .agg #[.int .i64 o0, .int .i64 o1]) (by simp [results, Try.results111, go_sem, r0, r1]) rfl ⟨rfl, ?_⟩
    exact below_put2 (below_drews (unhide HB) 1) (by omega) _ _

attribute [local go_sem ↓] eqlPoint in
set_option maxHeartbeats 1000000 in
theorem implPointOk_any (x y : Int) (w : World) :
    Calls Try.prog 101 #[.agg #[.int .i64 x, .int .i64 y]] w fun e w' => e = .returned (.bool (pointOkB x y)) ∧ Below w.heap.size w w' := by
  have HN := hide (implNearPoint_any x y)
  have H : Hid ((decide (x = clampI x (-8388608) 8388608) && decide (y = clampI y (-8388608) 8388608)) = pointOkB x y) := by unfold Hid pointOkB; rw [clamp_inB, clamp_inB]
  generalize clampI x (-8388608) 8388608 = o0 at HN H
  generalize clampI y (-8388608) 8388608 = o1 at HN H
  go_enter Try.func101, Try.ntmps101
  go_wp2_with fail
  obtain ⟨W, hW⟩ : ∃ W, W = (w.alloc (.cells #[.int .i64 x, .int .i64 y] 39)) := ⟨_, rfl⟩
  have A : W.heap[w.heap.size]? = some (.cells #[.int .i64 x, .int .i64 y] 39 (0, 0)) := by rw [hW]; exact al1_0 _ _
  obtain ⟨a0, a1⟩ := row2 A
  have HB := hide (show Below w.heap.size w W by rw [hW]; exact al1_below _ _)
  rw [← hW]
  clear hW
  have k0 : ∀ u, Below W.heap.size W u → (u.cell? ⟨w.heap.size, 0, none⟩ = some (.int .i64 x) ∧ u.cell? ⟨w.heap.size, 1, none⟩ = some (.int .i64 y) ∧ Below W.heap.size W u) := fun u h => keep2 A (heap_lt A) h
  have kS : ∀ u, (u.cell? ⟨w.heap.size, 0, none⟩ = some (.int .i64 x) ∧ u.cell? ⟨w.heap.size, 1, none⟩ = some (.int .i64 y) ∧ Below W.heap.size W u) → Below W.heap.size W u := fun u h => h.2.2
  go_region_held3 (fun u => u.cell? ⟨w.heap.size, 0, none⟩ = some (.int .i64 x) ∧ u.cell? ⟨w.heap.size, 1, none⟩ = some (.int .i64 y) ∧ Below W.heap.size W u) ((refine k0 _ ?_; first | with_reducible exact (Below.refl _ _).drew | (with_reducible refine below_after (by assumption) ?_ (Nat.le_refl _); with_reducible exact (Below.refl _ _).drew))) (first | (go_at_call 111; go_fit (unhide HN _); rintro r w4 ⟨rfl, hb⟩))
  all_goals
    go_wp2_with fail
    go_ret
    exact ⟨ret_bool (unhide H), below_after (kS _ (by assumption)) (unhide HB) (Nat.le_refl _)⟩

attribute [local go_sem ↓] eqlMat in
set_option maxHeartbeats 2000000 in
set_option maxRecDepth 100000 in
theorem implMatOk_any (a b c d e f : Int) (w : World) :
    Calls Try.prog 38 #[.agg #[.int .i64 a, .int .i64 b, .int .i64 c, .int .i64 d, .int .i64 e, .int .i64 f]] w fun r w' => r = .returned (.bool (matOkB a b c d e f)) ∧ Below w.heap.size w w' := by
  have HN := hide (implNearMat_any a b c d e f)
  have H : Hid ((decide (a = clampI a (-1048576) 1048576) && (decide (b = clampI b (-1048576) 1048576) && (decide (c = clampI c (-1048576) 1048576) && (decide (d = clampI d (-1048576) 1048576) && (decide (e = clampI e (-8388608) 8388608) && decide (f = clampI f (-8388608) 8388608)))))) = matOkB a b c d e f) := by unfold Hid matOkB; rw [clamp_inB, clamp_inB, clamp_inB, clamp_inB, clamp_inB, clamp_inB]
  generalize clampI a (-1048576) 1048576 = o0 at HN H
  generalize clampI b (-1048576) 1048576 = o1 at HN H
  generalize clampI c (-1048576) 1048576 = o2 at HN H
  generalize clampI d (-1048576) 1048576 = o3 at HN H
  generalize clampI e (-8388608) 8388608 = o4 at HN H
  generalize clampI f (-8388608) 8388608 = o5 at HN H
  go_enter Try.func38, Try.ntmps38
  go_wp2_with fail
  obtain ⟨W, hW⟩ : ∃ W, W = (w.alloc (.cells #[.int .i64 a, .int .i64 b, .int .i64 c, .int .i64 d, .int .i64 e, .int .i64 f] 32)) := ⟨_, rfl⟩
  have A : W.heap[w.heap.size]? = some (.cells #[.int .i64 a, .int .i64 b, .int .i64 c, .int .i64 d, .int .i64 e, .int .i64 f] 32 (0, 0)) := by rw [hW]; exact al1_0 _ _
  obtain ⟨a0, a1, a2, a3, a4, a5⟩ := row6 A
  have HB := hide (show Below w.heap.size w W by rw [hW]; exact al1_below _ _)
  rw [← hW]
  clear hW
  have k0 : ∀ u, Below W.heap.size W u → (u.cell? ⟨w.heap.size, 0, none⟩ = some (.int .i64 a) ∧ u.cell? ⟨w.heap.size, 1, none⟩ = some (.int .i64 b) ∧ u.cell? ⟨w.heap.size, 2, none⟩ = some (.int .i64 c) ∧ u.cell? ⟨w.heap.size, 3, none⟩ = some (.int .i64 d) ∧ u.cell? ⟨w.heap.size, 4, none⟩ = some (.int .i64 e) ∧ u.cell? ⟨w.heap.size, 5, none⟩ = some (.int .i64 f) ∧ Below W.heap.size W u) := fun u h => keep6 A (heap_lt A) h
  have kS : ∀ u, (u.cell? ⟨w.heap.size, 0, none⟩ = some (.int .i64 a) ∧ u.cell? ⟨w.heap.size, 1, none⟩ = some (.int .i64 b) ∧ u.cell? ⟨w.heap.size, 2, none⟩ = some (.int .i64 c) ∧ u.cell? ⟨w.heap.size, 3, none⟩ = some (.int .i64 d) ∧ u.cell? ⟨w.heap.size, 4, none⟩ = some (.int .i64 e) ∧ u.cell? ⟨w.heap.size, 5, none⟩ = some (.int .i64 f) ∧ Below W.heap.size W u) → Below W.heap.size W u := fun u h => h.2.2.2.2.2.2
  go_region_held3 (fun u => u.cell? ⟨w.heap.size, 0, none⟩ = some (.int .i64 a) ∧ u.cell? ⟨w.heap.size, 1, none⟩ = some (.int .i64 b) ∧ u.cell? ⟨w.heap.size, 2, none⟩ = some (.int .i64 c) ∧ u.cell? ⟨w.heap.size, 3, none⟩ = some (.int .i64 d) ∧ u.cell? ⟨w.heap.size, 4, none⟩ = some (.int .i64 e) ∧ u.cell? ⟨w.heap.size, 5, none⟩ = some (.int .i64 f) ∧ Below W.heap.size W u) ((refine k0 _ ?_; first | with_reducible exact (Below.refl _ _).drew | (with_reducible refine below_after (by assumption) ?_ (Nat.le_refl _); with_reducible exact (Below.refl _ _).drew))) (first | (go_at_call 77; go_fit (unhide HN _); rintro r w4 ⟨rfl, hb⟩))
  all_goals
    go_wp2_with fail
    go_ret
    exact ⟨ret_bool (unhide H), below_after (kS _ (by assumption)) (unhide HB) (Nat.le_refl _)⟩

end Go.Proofs.Ythelfgippiimiab

/-
  The program's allRight: every point of a list is right.
-/
namespace Go.Proofs.Ythelfgippiimiab
open Go.RowKit

set_option maxHeartbeats 4000000 in
set_option maxRecDepth 100000 in
theorem implAllRight_any (pf : Nat → Int × Int) (b : Option Addr) (m d : Nat) (hm : m ≤ 1048576) (w : World)
    (x : Bool) (hx : x = true ↔ ∀ i, i < m → pointOkB (pf i).1 (pf i).2 = true) (P : ∀ i, i < m → PtArg w b i (pf i)) :
    Calls Try.prog 78 #[.slice b m d] w fun r w' => r = .returned (.bool x) ∧ Below w.heap.size w w' := by
  replace hx := hide hx
  replace P := hide P
  go_enter Try.func78, Try.ntmps78
  go_wp2_with fail
  go_loopw [7] (fun i u => ∃ q : Nat, q ≤ m ∧ i = .int .i64 q ∧ Hid (∀ j, j < q → pointOkB (pf j).1 (pf j).2 = true) ∧ Below w.heap.size w u) (fun i _ => m - (intOf i).toNat)
  case atStart => exact ⟨0, Nat.zero_le _, rfl, fun j hj => absurd hj (by omega), Below.refl _ _⟩
  case round =>
    obtain ⟨q, hq, rfl, HP, hb⟩ := hrel
    by_cases hlt : q < m
    · have HZ := (unhide P q hlt).next hb
      generalize hz : pf q = z at HZ
      obtain ⟨x0, y0⟩ := z
      obtain ⟨s, o, rfl, g0, g1⟩ := HZ
      dsimp only at g0 g1
      have E := hide (implPointOk_any x0 y0)
      replace hb := hide hb
      replace hz := hide hz
      go_wp2_with fail
      obtain ⟨W, hW⟩ : ∃ W, W = wr.alloc (.cells #[.int .i64 x0, .int .i64 y0] 39) := ⟨_, rfl⟩
      replace hb := hide (show Below w.heap.size w W by rw [hW]; exact below_new _ (unhide hb) (Nat.le_refl _))
      rw [← hW]
      clear hW g0 g1
      go_fit (unhide E _)
      rintro r w1 ⟨rfl, hb1⟩
      replace hb := hide (below_two (unhide hb) hb1)
      clear hb1
      cases hok : pointOkB x0 y0 with
      | true =>
        go_wp2_with fail
        go_roundw
        case rel => exact ⟨q + 1, by omega, by go_num, pok_more (unhide HP) (by rw [unhide hz]; exact hok), unhide hb⟩
        case measure => simp [intOf]; omega
      | false =>
        go_wp2_with fail
        go_ret
        exact ⟨bool_no (unhide hx) (fun h => by have := h q hlt; rw [unhide hz] at this; dsimp only at this; rw [hok] at this; cases this), unhide hb⟩
    · have hqe : q = m := by omega
      subst hqe
      replace hb := hide hb
      go_wp2_with fail
      go_ret
      exact ⟨bool_yes (unhide hx) (unhide HP), unhide hb⟩
end Go.Proofs.Ythelfgippiimiab

/-
  Points on curves: the arithmetic of both sides, and the program's weighed.
-/
namespace Go.Proofs.Ythelfgippiimiab
open Go.RowKit

def wsum (wf g : Nat → Int) : Nat → Int
  | 0 => 0
  | k + 1 => wsum wf g k + wf k * g k

theorem wsum_bd {wf g : Nat → Int} {n : Nat} (hw : ∀ i, i < n → 0 ≤ wf i ∧ wf i ≤ 512) (hg : ∀ i, i < n → -8388608 ≤ g i ∧ g i ≤ 8388608) :
    ∀ k, k ≤ n → -((k : Int) * 4294967296) ≤ wsum wf g k ∧ wsum wf g k ≤ (k : Int) * 4294967296
  | 0, _ => by simp [wsum]
  | k + 1, h => by
    have ih := wsum_bd hw hg k (by omega)
    have h1 := hw k (by omega)
    have h2 := hg k (by omega)
    have h3 := mul_bd (A := 512) (X := 8388608) (by omega) h1.2 h2.1 h2.2
    simp only [wsum]
    omega

theorem wone {wf : Nat → Int} (k : Nat) : wsum wf (fun _ => 1) (k + 1) = wsum wf (fun _ => 1) k + wf k := by simp [wsum]

def quadI (a b c i : Int) : Int := rdivI ((4 - i) * (4 - i) * a + 2 * i * (4 - i) * b + i * i * c) 16
def cubicI (a b c d i : Int) : Int := rdivI ((8 - i) * (8 - i) * (8 - i) * a + 3 * i * (8 - i) * (8 - i) * b + 3 * i * i * (8 - i) * c + i * i * i * d) 512
def quadOk (a b c : Int × Int) : Bool := pointOkB a.1 a.2 && (pointOkB b.1 b.2 && pointOkB c.1 c.2)
def cubicOk (a b c d : Int × Int) : Bool := pointOkB a.1 a.2 && (pointOkB b.1 b.2 && (pointOkB c.1 c.2 && pointOkB d.1 d.2))
def quadP (a b c : Int × Int) (i : Int) : Int × Int := if quadOk a b c = true then (quadI a.1 b.1 c.1 (clampI i 0 4), quadI a.2 b.2 c.2 (clampI i 0 4)) else (0, 0)
def cubicP (a b c d : Int × Int) (i : Int) : Int × Int := if cubicOk a b c d = true then (cubicI a.1 b.1 c.1 d.1 (clampI i 0 8), cubicI a.2 b.2 c.2 d.2 (clampI i 0 8)) else (0, 0)

theorem clamp_in {x h : Int} (hh : 0 ≤ h) : 0 ≤ clampI x 0 h ∧ clampI x 0 h ≤ h := by unfold clampI; split <;> (try split) <;> omega

theorem four_cases {i : Int} (h : 0 ≤ i ∧ i ≤ 4) : i = 0 ∨ i = 1 ∨ i = 2 ∨ i = 3 ∨ i = 4 := by omega
theorem eight_cases {i : Int} (h : 0 ≤ i ∧ i ≤ 8) : i = 0 ∨ i = 1 ∨ i = 2 ∨ i = 3 ∨ i = 4 ∨ i = 5 ∨ i = 6 ∨ i = 7 ∨ i = 8 := by omega

theorem quad_in {a b c i lo hi : Int} (h : 0 ≤ i ∧ i ≤ 4) (a0 : lo ≤ a) (a1 : a ≤ hi) (b0 : lo ≤ b) (b1 : b ≤ hi) (c0 : lo ≤ c) (c1 : c ≤ hi) : lo ≤ quadI a b c i ∧ quadI a b c i ≤ hi := by
  unfold quadI rdivI
  rw [if_neg (by decide)]
  rcases four_cases h with rfl | rfl | rfl | rfl | rfl <;> split <;> omega
theorem cubic_in {a b c d i lo hi : Int} (h : 0 ≤ i ∧ i ≤ 8) (a0 : lo ≤ a) (a1 : a ≤ hi) (b0 : lo ≤ b) (b1 : b ≤ hi) (c0 : lo ≤ c) (c1 : c ≤ hi) (d0 : lo ≤ d) (d1 : d ≤ hi) : lo ≤ cubicI a b c d i ∧ cubicI a b c d i ≤ hi := by
  unfold cubicI rdivI
  rw [if_neg (by decide)]
  rcases eight_cases h with rfl | rfl | rfl | rfl | rfl | rfl | rfl | rfl | rfl <;> split <;> omega

end Go.Proofs.Ythelfgippiimiab

/-
  Lines for curves: what both sides reckon, and lists of lists of points in memory.
-/
namespace Go.Proofs.Ythelfgippiimiab
open Go.RowKit

abbrev Pt := Int × Int
def lastP (l : List Pt) : Pt := l.getLastD (0, 0)
def firstP (l : List Pt) : Pt := l.headD (0, 0)
def quadL (a b c : Pt) : List Pt := (List.range 4).map fun (k : Nat) => quadP a b c ((k : Int) + 1)
def cubicL (a b c d : Pt) : List Pt := (List.range 8).map fun (k : Nat) => cubicP a b c d ((k : Int) + 1)
/-- What a verb but MoveTo adds to a line. -/
def addL (v : Int) (pf : Nat → Pt) (j : Nat) (l : List Pt) : List Pt :=
  if v = 2 then [pf j] else if v = 3 then quadL (lastP l) (pf j) (pf (j + 1)) else if v = 4 then cubicL (lastP l) (pf j) (pf (j + 1)) (pf (j + 2)) else if firstP l = lastP l then [] else [firstP l]
/-- The lines behind k verbs: those that are done, and the one under way. -/
def flatN (vf : Nat → Int) (pf : Nat → Pt) : Nat → List (List Pt) × List Pt
  | 0 => ([], [])
  | k + 1 => if vf k = 1 then (if k = 0 then [] else (flatN vf pf k).1 ++ [(flatN vf pf k).2], [pf (needN vf k)]) else ((flatN vf pf k).1, (flatN vf pf k).2 ++ addL (vf k) pf (needN vf k) (flatN vf pf k).2)
def flatL (x : Bool) (vf : Nat → Int) (pf : Nat → Pt) (n : Nat) : List (List Pt) := if x = true ∧ 0 < n then (flatN vf pf n).1 ++ [(flatN vf pf n).2] else []

theorem addL_len (v : Int) (pf : Nat → Pt) (j : Nat) (l : List Pt) : (addL v pf j l).length ≤ 8 := by
  unfold addL quadL cubicL; repeat' split
  all_goals simp
theorem flat_len (vf : Nat → Int) (pf : Nat → Pt) : ∀ k, (flatN vf pf k).1.length ≤ k ∧ (flatN vf pf k).2.length ≤ 8 * k
  | 0 => by simp [flatN]
  | k + 1 => by
    have h := flat_len vf pf k
    have h2 := addL_len (vf k) pf (needN vf k) (flatN vf pf k).2
    simp only [flatN]
    split
    · split <;> simp <;> omega
    · simp; omega
theorem flat_len1 (vf : Nat → Int) (pf : Nat → Pt) : ∀ k, ∀ l ∈ (flatN vf pf k).1, l.length ≤ 8 * k
  | 0 => by simp [flatN]
  | k + 1 => by
    have h := flat_len1 vf pf k
    have h2 := (flat_len vf pf k).2
    intro l hl
    simp only [flatN] at hl
    split at hl
    · split at hl
      · simp at hl
      · simp at hl
        rcases hl with hl | rfl
        · have := h l hl; omega
        · omega
    · have := h l hl; omega
/-- A line under way has a point. -/
theorem flat_pos {vf : Nat → Int} {pf : Nat → Pt} {n : Nat} (hv : ∀ j, j < n → VOk vf j) : ∀ k, k ≤ n → 0 < k → 0 < (flatN vf pf k).2.length
  | 0, _, h => absurd h (by omega)
  | k + 1, hk, _ => by
    simp only [flatN]
    split
    · simp
    · rename_i hne
      have h0 : 0 < k := by
        rcases Nat.eq_zero_or_pos k with rfl | h
        · exact absurd ((hv 0 (by omega)).2 (.inl rfl)) hne
        · exact h
      have := flat_pos (pf := pf) hv k (by omega) h0
      simp; omega
theorem quad_right {a b c : Pt} (ha : pointOkB a.1 a.2 = true) (hb : pointOkB b.1 b.2 = true) (hc : pointOkB c.1 c.2 = true) (i : Int) (hi : 0 ≤ i ∧ i ≤ 4) : quadP a b c i = (quadI a.1 b.1 c.1 i, quadI a.2 b.2 c.2 i) ∧ pointOkB (quadP a b c i).1 (quadP a b c i).2 = true := by
  have e : quadP a b c i = (quadI a.1 b.1 c.1 i, quadI a.2 b.2 c.2 i) := by
    unfold quadP; rw [if_pos (by unfold quadOk; rw [ha, hb, hc]; rfl), show clampI i 0 4 = i by unfold clampI; rw [if_neg (by omega), if_neg (by omega)]]
  refine ⟨e, ?_⟩
  rw [e]
  obtain ⟨⟨a1, a2⟩, a3, a4⟩ := point_bd ha
  obtain ⟨⟨b1, b2⟩, b3, b4⟩ := point_bd hb
  obtain ⟨⟨c1, c2⟩, c3, c4⟩ := point_bd hc
  have X := quad_in hi a1 a2 b1 b2 c1 c2
  have Y := quad_in hi a3 a4 b3 b4 c3 c4
  simp only [pointOkB, inB, Bool.and_eq_true, decide_eq_true_eq]
  omega
theorem cubic_right {a b c d : Pt} (ha : pointOkB a.1 a.2 = true) (hb : pointOkB b.1 b.2 = true) (hc : pointOkB c.1 c.2 = true) (hd : pointOkB d.1 d.2 = true) (i : Int) (hi : 0 ≤ i ∧ i ≤ 8) : cubicP a b c d i = (cubicI a.1 b.1 c.1 d.1 i, cubicI a.2 b.2 c.2 d.2 i) ∧ pointOkB (cubicP a b c d i).1 (cubicP a b c d i).2 = true := by
  have e : cubicP a b c d i = (cubicI a.1 b.1 c.1 d.1 i, cubicI a.2 b.2 c.2 d.2 i) := by
    unfold cubicP; rw [if_pos (by unfold cubicOk; rw [ha, hb, hc, hd]; rfl), show clampI i 0 8 = i by unfold clampI; rw [if_neg (by omega), if_neg (by omega)]]
  refine ⟨e, ?_⟩
  rw [e]
  obtain ⟨⟨a1, a2⟩, a3, a4⟩ := point_bd ha
  obtain ⟨⟨b1, b2⟩, b3, b4⟩ := point_bd hb
  obtain ⟨⟨c1, c2⟩, c3, c4⟩ := point_bd hc
  obtain ⟨⟨d1, d2⟩, d3, d4⟩ := point_bd hd
  have X := cubic_in hi a1 a2 b1 b2 c1 c2 d1 d2
  have Y := cubic_in hi a3 a4 b3 b4 c3 c4 d3 d4
  simp only [pointOkB, inB, Bool.and_eq_true, decide_eq_true_eq]
  omega

/-- Lists of points in memory, one behind another: each is the call's own, and each lies behind those ahead of it. -/
structure Lines (u : World) (base : Nat) (vs : List Value) (L : List (List Pt)) : Prop where
  len : vs.length = L.length
  own : ∀ (i : Nat) v l, vs[i]? = some v → L[i]? = some l → u.ownsRow base 39 2 v l.length (ptsV l)
  up : ∀ (i j : Nat) v v', i < j → vs[i]? = some v → vs[j]? = some v' → ∀ x y, v.ownBlock = some x → v'.ownBlock = some y → x < y
theorem Lines.nil (u : World) (base : Nat) : Lines u base [] [] := ⟨rfl, fun i v l h => by simp at h, fun i j v v' _ h => by simp at h⟩
theorem Lines.next {u u' : World} {base : Nat} {vs : List Value} {L : List (List Pt)} (h : Lines u base vs L) (hb : Below u.heap.size u u') : Lines u' base vs L :=
  ⟨h.len, fun i v l h1 h2 => own_below (h.own i v l h1 h2) hb, h.up⟩
theorem Lines.low {u : World} {base base' : Nat} {vs : List Value} {L : List (List Pt)} (h : Lines u base vs L) (hb : base' ≤ base) : Lines u base' vs L :=
  ⟨h.len, fun i v l h1 h2 => own_low (h.own i v l h1 h2) hb, h.up⟩
/-- All blocks lie below B. -/
def Under (B : Nat) (vs : List Value) : Prop := ∀ v ∈ vs, ∀ k, v.ownBlock = some k → k < B
theorem Lines.kept {u u' : World} {base B : Nat} {vs : List Value} {L : List (List Pt)} (h : Lines u base vs L) (hb : Below B u u') (hu : Under B vs) : Lines u' base vs L :=
  ⟨h.len, fun i v l h1 h2 => own_part (h.own i v l h1 h2) hb (hu v (List.mem_of_getElem? h1)), h.up⟩
theorem Lines.push {u : World} {base B : Nat} {vs : List Value} {L : List (List Pt)} {v : Value} {l : List Pt} (h : Lines u base vs L) (ho : u.ownsRow B 39 2 v l.length (ptsV l)) (hB : base ≤ B) (hu : Under B vs) : Lines u base (vs ++ [v]) (L ++ [l]) := by
  refine ⟨by simp [h.len], ?_, ?_⟩
  · intro i x y h1 h2
    by_cases hi : i < vs.length
    · rw [List.getElem?_append_left hi] at h1
      rw [List.getElem?_append_left (by rw [← h.len]; exact hi)] at h2
      exact h.own i x y h1 h2
    · have e : i = vs.length := by have := (List.getElem?_eq_some_iff.1 h1).1; simp at this; omega
      subst e
      rw [List.getElem?_concat_length] at h1
      rw [h.len, List.getElem?_concat_length] at h2
      cases h1; cases h2
      exact own_low ho hB
  · intro i j x y hij h1 h2 a b ha hb
    have hj := (List.getElem?_eq_some_iff.1 h2).1
    rw [List.length_append, List.length_singleton] at hj
    have hi : i < vs.length := by omega
    rw [List.getElem?_append_left hi] at h1
    by_cases hjl : j < vs.length
    · rw [List.getElem?_append_left hjl] at h2
      exact h.up i j x y hij h1 h2 a b ha hb
    · have e : j = vs.length := by omega
      subst e
      rw [List.getElem?_concat_length] at h2
      cases h2
      have h3 := hu x (List.mem_of_getElem? h1) a ha
      have h4 := (ho.lt b hb).1
      omega
theorem Under.push {B C : Nat} {vs : List Value} {v : Value} (h : Under B vs) (hBC : B ≤ C) (hv : ∀ k, v.ownBlock = some k → k < C) : Under C (vs ++ [v]) := by
  intro x hx k hk
  rw [List.mem_append, List.mem_singleton] at hx
  rcases hx with hx | rfl
  · have := h x hx k hk; omega
  · exact hv k hk
/-- A list of lists that a call hands back. -/
def LinesV (u : World) (base : Nat) (v : Value) (L : List (List Pt)) : Prop := ∃ vs, u.ownsRow base 33 1 v L.length vs ∧ Lines u base vs L
theorem LinesV.next {u u' : World} {base : Nat} {v : Value} {L : List (List Pt)} (h : LinesV u base v L) (hb : Below u.heap.size u u') : LinesV u' base v L :=
  let ⟨vs, h1, h2⟩ := h; ⟨vs, own_below h1 hb, h2.next hb⟩
theorem LinesV.low {u : World} {base base' : Nat} {v : Value} {L : List (List Pt)} (h : LinesV u base v L) (hb : base' ≤ base) : LinesV u base' v L :=
  let ⟨vs, h1, h2⟩ := h; ⟨vs, own_low h1 hb, h2.low hb⟩
end Go.Proofs.Ythelfgippiimiab

/-
  Four points: what both sides reckon.
-/
namespace Go.Proofs.Ythelfgippiimiab
open Go.RowKit
set_option linter.unusedVariables false

def nearB (x y : Int) : Bool := inB x (-33554432) 33554432 && inB y (-33554432) 33554432
theorem near_bd {x y : Int} (h : nearB x y = true) : (-33554432 ≤ x ∧ x ≤ 33554432) ∧ (-33554432 ≤ y ∧ y ≤ 33554432) := by
  simp only [nearB, inB, Bool.and_eq_true, decide_eq_true_eq] at h
  omega
def sideI (a b p : Pt) : Int := (b.1 - a.1) * (p.2 - a.2) - (p.1 - a.1) * (b.2 - a.2)
def upB (a b p : Pt) : Bool := decide (a.2 ≤ p.2) && (decide (p.2 < b.2) && decide (0 < sideI a b p))
def downB (a b p : Pt) : Bool := decide (b.2 ≤ p.2) && (decide (p.2 < a.2) && decide (sideI a b p < 0))
/-- What an edge adds. -/
def windE (a b p : Pt) : Int := (if upB a b p = true then 1 else 0) - (if downB a b p = true then 1 else 0)
theorem windE_bd (a b p : Pt) : -1 ≤ windE a b p ∧ windE a b p ≤ 1 := by
  unfold windE; split <;> split <;> omega
/-- The first k edges of n points. -/
def windN (n : Nat) (pf : Nat → Pt) (p : Pt) : Nat → Int
  | 0 => 0
  | k + 1 => windN n pf p k + windE (pf k) (pf ((k + 1) % n)) p
theorem windN_bd (n : Nat) (pf : Nat → Pt) (p : Pt) : ∀ k : Nat, -(k : Int) ≤ windN n pf p k ∧ windN n pf p k ≤ (k : Int)
  | 0 => by simp [windN]
  | k + 1 => by
    have := windN_bd n pf p k
    have := windE_bd (pf k) (pf ((k + 1) % n)) p
    simp only [windN]; push_cast; omega
def allNear (n : Nat) (pf : Nat → Pt) : Prop := ∀ i, i < n → nearB (pf i).1 (pf i).2 = true
noncomputable def windP (n : Nat) (pf : Nat → Pt) (p : Pt) : Int :=
  @ite _ (nearB p.1 p.2 = true ∧ allNear n pf) (Classical.propDecidable _) (windN n pf p n) 0
theorem windP_yes {n : Nat} {pf : Nat → Pt} {p : Pt} (h : nearB p.1 p.2 = true) (h' : allNear n pf) : windP n pf p = windN n pf p n := if_pos ⟨h, h'⟩
theorem windP_no {n : Nat} {pf : Nat → Pt} {p : Pt} (h : ¬ (nearB p.1 p.2 = true ∧ allNear n pf)) : windP n pf p = 0 := if_neg h
theorem windP_bd (n : Nat) (pf : Nat → Pt) (p : Pt) : -(n : Int) ≤ windP n pf p ∧ windP n pf p ≤ (n : Int) := by
  have := windN_bd n pf p n
  by_cases h : nearB p.1 p.2 = true ∧ allNear n pf
  · rw [windP_yes h.1 h.2]; exact this
  · rw [windP_no h]; omega
/-- Of the first k lines. -/
noncomputable def coverN (ln : Nat → Nat) (pf : Nat → Nat → Pt) (p : Pt) : Nat → Int
  | 0 => 0
  | k + 1 => coverN ln pf p k + windP (ln k) (pf k) p
theorem coverN_bd {ln : Nat → Nat} {N : Nat} (hl : ∀ i, i < N → ln i ≤ 1048576) (pf : Nat → Nat → Pt) (p : Pt) : ∀ k, k ≤ N → -((k : Int) * 1048576) ≤ coverN ln pf p k ∧ coverN ln pf p k ≤ (k : Int) * 1048576
  | 0, _ => by simp [coverN]
  | k + 1, h => by
    have := coverN_bd hl pf p k (by omega)
    have := windP_bd (ln k) (pf k) p
    have := hl k (by omega)
    simp only [coverN]; push_cast; omega
noncomputable def coversB (N : Nat) (ln : Nat → Nat) (pf : Nat → Nat → Pt) (even : Bool) (p : Pt) : Bool :=
  if even = true then decide (coverN ln pf p N % 2 ≠ 0) else decide (coverN ln pf p N ≠ 0)
/-- Point number i of a square. -/
def pointI (x y : Int) (i : Nat) : Pt := (256 * x + 64 + 128 * ((i : Int) % 2), 256 * y + 64 + 128 * ((i : Int) / 2))
noncomputable def maskN (N : Nat) (ln : Nat → Nat) (pf : Nat → Nat → Pt) (even : Bool) (x y : Int) : Nat → Int
  | 0 => 0
  | i + 1 => maskN N ln pf even x y i + if coversB N ln pf even (pointI x y i) = true then (2 : Int) ^ i else 0
noncomputable def maskP (N : Nat) (ln : Nat → Nat) (pf : Nat → Nat → Pt) (even : Bool) (x y : Int) : Int :=
  if (inB x (-2000) 2000 && inB y (-2000) 2000) = true then maskN N ln pf even x y 4 else 0
def countI (b : Int) : Int := if inB b 0 15 = true then b % 2 + b / 2 % 2 + b / 4 % 2 + b / 8 else 0
/-- A list of points within a list of them that came in, or that a call made. -/
def LArg (w : World) (a : Option Addr) (i : Nat) (n : Nat) (pf : Nat → Pt) : Prop := ∃ s o x c, a = some ⟨s, o, none⟩ ∧ w.cell? ⟨s, o + i, none⟩ = some (.slice x n c) ∧ ∀ j, j < n → PtArg w x j (pf j)
theorem LArg.next {w w1 : World} {a : Option Addr} {i n : Nat} {pf : Nat → Pt} (h : LArg w a i n pf) (hb : Below w.heap.size w w1) : LArg w1 a i n pf :=
  let ⟨s, o, x, c, h1, h2, h3⟩ := h; ⟨s, o, x, c, h1, kc hb h2, fun j hj => (h3 j hj).next hb⟩
end Go.Proofs.Ythelfgippiimiab

/-
  Masks: what both sides reckon. Right masks; the runs of a row and of a mask; what is painted by runs.
-/
namespace Go.Proofs.Ythelfgippiimiab
open Go.RowKit
set_option linter.unusedVariables false

/-- A box that a mask may have. -/
def boxInB (a b c d : Int) : Bool := !emptyB a b c d && (inB a (-2000) 2000 && (inB b (-2000) 2000 && (inB c (-2000) 2000 && (inB d (-2000) 2000 && (decide (c - a ≤ 60) && decide (d - b ≤ 60))))))
theorem boxIn_iff {a b c d : Int} : boxInB a b c d = true ↔ a < c ∧ b < d ∧ -2000 ≤ a ∧ -2000 ≤ b ∧ c ≤ 2000 ∧ d ≤ 2000 ∧ c - a ≤ 60 ∧ d - b ≤ 60 := by
  simp only [boxInB, emptyB, inB, Bool.and_eq_true, Bool.not_eq_true', Bool.or_eq_false_iff, decide_eq_true_eq, decide_eq_false_iff_not]
  omega
/-- How many squares a box has. -/
def wideN (a c : Int) : Nat := (c - a).toNat
def sqN (a b c d : Int) : Nat := wideN a c * wideN b d
theorem sqN_int {a b c d : Int} (h : boxInB a b c d = true) : ((sqN a b c d : Nat) : Int) = (c - a) * (d - b) := by
  obtain ⟨h1, h2, _⟩ := boxIn_iff.1 h
  unfold sqN wideN
  rw [Int.natCast_mul, Int.toNat_of_nonneg (by omega), Int.toNat_of_nonneg (by omega)]
theorem sqN_le {a b c d : Int} (h : boxInB a b c d = true) : sqN a b c d ≤ 3600 ∧ 0 < sqN a b c d := by
  obtain ⟨h1, h2, _, _, _, _, h3, h4⟩ := boxIn_iff.1 h
  unfold sqN wideN
  have e1 : (c - a).toNat ≤ 60 := by omega
  have e2 : (d - b).toNat ≤ 60 := by omega
  have e3 : 0 < (c - a).toNat := by omega
  have e4 : 0 < (d - b).toNat := by omega
  exact ⟨Nat.mul_le_mul e1 e2, Nat.mul_pos e3 e4⟩
/-- A right mask: the box of zeros and no bits, or a box that it may have, as many bits as it has squares, each in 0 .. 15. -/
def MOk (a b c d : Int) (n : Nat) (f : Nat → Int) : Prop :=
  (n = 0 ∧ a = 0 ∧ b = 0 ∧ c = 0 ∧ d = 0) ∨ (0 < n ∧ boxInB a b c d = true ∧ n = sqN a b c d ∧ ∀ i, i < n → inB (f i) 0 15 = true)
open Classical in
noncomputable def maskOkB (a b c d : Int) (n : Nat) (f : Nat → Int) : Bool := decide (MOk a b c d n f)
theorem maskOk_iff {a b c d : Int} {n : Nat} {f : Nat → Int} : maskOkB a b c d n f = true ↔ MOk a b c d n f := by unfold maskOkB; simp
theorem maskOk_no {a b c d : Int} {n : Nat} {f : Nat → Int} (h : ¬ MOk a b c d n f) : maskOkB a b c d n f = false := by
  cases e : maskOkB a b c d n f with
  | true => exact absurd (maskOk_iff.1 e) h
  | false => rfl
theorem MOk.congr {a b c d : Int} {n : Nat} {f g : Nat → Int} (h : MOk a b c d n f) (e : ∀ i, i < n → g i = f i) : MOk a b c d n g := by
  rcases h with h | ⟨h1, h2, h3, h4⟩
  · exact .inl h
  · exact .inr ⟨h1, h2, h3, fun i hi => by rw [e i hi]; exact h4 i hi⟩
theorem MOk.le {a b c d : Int} {n : Nat} {f : Nat → Int} (h : MOk a b c d n f) : n ≤ 3600 := by
  rcases h with h | ⟨_, h2, h3, _⟩
  · omega
  · rw [h3]; exact (sqN_le h2).1
/-- The place of a square among the bits. -/
def placeI (a b c x y : Int) : Int := (y - b) * (c - a) + x - a
theorem place_bd {a b c d x y : Int} (h : boxInB a b c d = true) (hi : inBoxB a b c d x y = true) : 0 ≤ placeI a b c x y ∧ placeI a b c x y < ((sqN a b c d : Nat) : Int) := by
  obtain ⟨h1, h2, _⟩ := boxIn_iff.1 h
  simp only [inBoxB, Bool.and_eq_true, decide_eq_true_eq] at hi
  obtain ⟨x1, x2, y1, y2⟩ := hi
  rw [sqN_int h]
  unfold placeI
  have e1 : 0 ≤ (y - b) * (c - a) := Int.mul_nonneg (by omega) (by omega)
  have e2 : (y - b) * (c - a) ≤ (d - b - 1) * (c - a) := Int.mul_le_mul_of_nonneg_right (by omega) (by omega)
  have e3 : (d - b - 1) * (c - a) = (c - a) * (d - b) - (c - a) := by grind
  omega
/-- The bits of a square, 0 outside. -/
def atI (a b c d : Int) (f : Nat → Int) (x y : Int) : Int := if inBoxB a b c d x y = true then f (placeI a b c x y).toNat else 0
noncomputable def bitsI (a b c d : Int) (n : Nat) (f : Nat → Int) (x y : Int) : Int := if maskOkB a b c d n f = true then atI a b c d f x y else 0
/-- The square at a place. -/
def sqX (a c : Int) (i : Nat) : Int := a + ((i % wideN a c : Nat) : Int)
def sqY (a b c : Int) (i : Nat) : Int := b + ((i / wideN a c : Nat) : Int)
theorem sq_in {a b c d : Int} (h : boxInB a b c d = true) {i : Nat} (hi : i < sqN a b c d) : inBoxB a b c d (sqX a c i) (sqY a b c i) = true ∧ (placeI a b c (sqX a c i) (sqY a b c i)).toNat = i := by
  obtain ⟨h1, h2, _⟩ := boxIn_iff.1 h
  have hw : ((wideN a c : Nat) : Int) = c - a := by unfold wideN; omega
  have hh : ((wideN b d : Nat) : Int) = d - b := by unfold wideN; omega
  have hwp : 0 < wideN a c := by unfold wideN; omega
  have hm := Nat.mod_lt i hwp
  have hdv : i / wideN a c < wideN b d := Nat.div_lt_of_lt_mul (by unfold sqN at hi; exact hi)
  have hdm := Nat.div_add_mod i (wideN a c)
  unfold placeI sqX sqY
  generalize i / wideN a c = q at hdv hdm ⊢
  generalize i % wideN a c = r at hm hdm ⊢
  constructor
  · unfold inBoxB
    rw [decide_eq_true (by omega), decide_eq_true (by omega), decide_eq_true (by omega), decide_eq_true (by omega)]; rfl
  · rw [← hw]
    have e : (b + (q : Int) - b) * ((wideN a c : Nat) : Int) + (a + (r : Int)) - a = ((wideN a c * q + r : Nat) : Int) := by
      rw [Int.natCast_add, Int.natCast_mul, Int.mul_comm ((wideN a c : Nat) : Int)]
      have : b + (q : Int) - b = (q : Int) := by omega
      rw [this]; omega
    rw [e, hdm]; omega
theorem at_sq {a b c d : Int} (h : boxInB a b c d = true) (f : Nat → Int) {i : Nat} (hi : i < sqN a b c d) : atI a b c d f (sqX a c i) (sqY a b c i) = f i := by
  obtain ⟨h1, h2⟩ := sq_in h hi
  unfold atI; rw [if_pos h1, h2]

/-! ### the runs of a row -/

/-- Where the stretch of v that goes on at e ends. -/
def runE (g : Nat → Int) (W : Nat) (v : Int) : Nat → Nat → Nat
  | 0, e => e
  | k + 1, e => if e < W ∧ g e = v then runE g W v k (e + 1) else e
theorem runE_is {g : Nat → Int} {W : Nat} {v : Int} {e' : Nat} (hW : e' ≤ W) (hend : e' = W ∨ g e' ≠ v) : ∀ (k e : Nat), e ≤ e' → e' ≤ e + k → (∀ i, e ≤ i → i < e' → g i = v) → runE g W v k e = e'
  | 0, e, h1, h2, _ => by show e = e'; omega
  | k + 1, e, h1, h2, h3 => by
    unfold runE
    by_cases he : e = e'
    · subst he
      rw [if_neg]
      rintro ⟨h4, h5⟩
      rcases hend with h | h
      · omega
      · exact h h5
    · rw [if_pos ⟨by omega, h3 e (Nat.le_refl _) (by omega)⟩]
      exact runE_is hW hend k (e + 1) (by omega) (by omega) (fun i h4 h5 => h3 i (by omega) h5)
theorem runE_spec (g : Nat → Int) (W : Nat) (v : Int) : ∀ (k e : Nat), e ≤ W → W ≤ e + k → e ≤ runE g W v k e ∧ runE g W v k e ≤ W ∧ (∀ i, e ≤ i → i < runE g W v k e → g i = v) ∧ (runE g W v k e = W ∨ g (runE g W v k e) ≠ v)
  | 0, e, h1, h2 => ⟨Nat.le_refl _, h1, fun i h3 h4 => absurd (show i < e from h4) (by omega), .inl (show e = W by omega)⟩
  | k + 1, e, h1, h2 => by
    unfold runE
    by_cases h : e < W ∧ g e = v
    · rw [if_pos h]
      obtain ⟨r1, r2, r3, r4⟩ := runE_spec g W v k (e + 1) (by omega) (by omega)
      refine ⟨by omega, r2, fun i h3 h4 => ?_, r4⟩
      by_cases hi : i = e
      · rw [hi]; exact h.2
      · exact r3 i (by omega) h4
    · rw [if_neg h]
      refine ⟨Nat.le_refl _, h1, fun i h3 h4 => absurd h4 (by omega), ?_⟩
      by_cases he : e = W
      · exact .inl he
      · exact .inr (fun h' => h ⟨by omega, h'⟩)
/-- The runs of a row from a place on: where each begins, where it ends, its bits. -/
def rowF (g : Nat → Int) (W : Nat) : Nat → Nat → List (Nat × Nat × Int)
  | 0, _ => []
  | k + 1, x => if x < W then (if g x = 0 then rowF g W k (x + 1) else (x, runE g W (g x) W (x + 1), g x) :: rowF g W k (runE g W (g x) W (x + 1))) else []
theorem rowF_fuel (g : Nat → Int) (W : Nat) : ∀ (k j x : Nat), W ≤ x + k → W ≤ x + j → rowF g W k x = rowF g W j x
  | 0, 0, x, _, _ => rfl
  | 0, j + 1, x, h, _ => by
    unfold rowF; rw [if_neg (by omega)]
  | k + 1, 0, x, _, h => by
    unfold rowF; rw [if_neg (by omega)]
  | k + 1, j + 1, x, h1, h2 => by
    unfold rowF
    by_cases hx : x < W
    · rw [if_pos hx, if_pos hx]
      by_cases h0 : g x = 0
      · rw [if_pos h0, if_pos h0]; exact rowF_fuel g W k j (x + 1) (by omega) (by omega)
      · rw [if_neg h0, if_neg h0]
        obtain ⟨r1, r2, _, _⟩ := runE_spec g W (g x) W (x + 1) (by omega) (by omega)
        rw [rowF_fuel g W k j (runE g W (g x) W (x + 1)) (by omega) (by omega)]
    · rw [if_neg hx, if_neg hx]
def rowR (g : Nat → Int) (W x : Nat) : List (Nat × Nat × Int) := rowF g W W x
theorem rowR_end {g : Nat → Int} {W x : Nat} (h : W ≤ x) : rowR g W x = [] := by
  unfold rowR; rw [rowF_fuel g W W 0 x (by omega) (by omega)]; rfl
theorem rowR_zero {g : Nat → Int} {W x : Nat} (hx : x < W) (h : g x = 0) : rowR g W x = rowR g W (x + 1) := by
  unfold rowR
  rw [rowF_fuel g W W (W + 1) x (by omega) (by omega)]
  show rowF g W (W + 1) x = _
  rw [rowF, if_pos hx, if_pos h]
theorem rowR_run {g : Nat → Int} {W x e : Nat} {v : Int} (hx : x < e) (he : e ≤ W) (hv : v ≠ 0) (hg : ∀ i, x ≤ i → i < e → g i = v) (hend : e = W ∨ g e ≠ v) : rowR g W x = (x, e, v) :: rowR g W e := by
  have h0 : g x = v := hg x (Nat.le_refl _) hx
  unfold rowR
  rw [rowF_fuel g W W (W + 1) x (by omega) (by omega)]
  rw [rowF, if_pos (by omega), if_neg (by rw [h0]; exact hv), h0, runE_is he hend W (x + 1) (by omega) (by omega) (fun i h1 h2 => hg i (by omega) h2)]
/-- By cases: from any place a row has no run any more, goes on one further, or begins with a run. -/
theorem rowR_cases (g : Nat → Int) (W x : Nat) : (W ≤ x ∧ rowR g W x = []) ∨ (x < W ∧ g x = 0 ∧ rowR g W x = rowR g W (x + 1)) ∨ ∃ e, x < e ∧ e ≤ W ∧ g x ≠ 0 ∧ (∀ i, x ≤ i → i < e → g i = g x) ∧ (e = W ∨ g e ≠ g x) ∧ rowR g W x = (x, e, g x) :: rowR g W e := by
  by_cases hx : x < W
  · by_cases h0 : g x = 0
    · exact .inr (.inl ⟨hx, h0, rowR_zero hx h0⟩)
    · obtain ⟨r1, r2, r3, r4⟩ := runE_spec g W (g x) W (x + 1) (by omega) (by omega)
      refine .inr (.inr ⟨_, by omega, r2, h0, fun i h1 h2 => ?_, r4, rowR_run (by omega) r2 h0 (fun i h1 h2 => ?_) r4⟩)
      · by_cases hi : i = x
        · rw [hi]
        · exact r3 i (by omega) h2
      · by_cases hi : i = x
        · rw [hi]
        · exact r3 i (by omega) h2
  · exact .inl ⟨by omega, rowR_end (by omega)⟩

/-! ### the runs of a mask: Y, X0, X1, Bits -/
def runOf (a : Int) (y : Int) (r : Nat × Nat × Int) : B4 := ⟨y, a + (r.1 : Int), a + (r.2.1 : Int), r.2.2⟩
/-- Those of the first j rows. -/
def runsN (a b : Int) (W : Nat) (f : Nat → Int) : Nat → List B4
  | 0 => []
  | j + 1 => runsN a b W f j ++ (rowR (fun i => f (j * W + i)) W 0).map (runOf a (b + (j : Int)))
def runsL (a b c d : Int) (f : Nat → Int) : List B4 := runsN a b (wideN a c) f (wideN b d)
noncomputable def runsM (a b c d : Int) (n : Nat) (f : Nat → Int) : List B4 := if maskOkB a b c d n f = true then runsL a b c d f else []
end Go.Proofs.Ythelfgippiimiab

/-
  A surface that is painted on: what both sides reckon.
-/
namespace Go.Proofs.Ythelfgippiimiab
open Go.RowKit
set_option linter.unusedVariables false

/-- One square, painted. -/
def inkC (p : P13) (mode fade bits px py : Int) (s : B4) : B4 := if bits = 0 then s else blendC mode (fadeC (thinC (colorAtC p px py) (countI bits)) fade) s
theorem ink_laid (p : P13) (mode fade bits px py : Int) {s : B4} (h : laidOkB s = true) : laidOkB (inkC p mode fade bits px py s) = true := by
  unfold inkC
  split
  · exact h
  · exact blend_ok mode (fade_laid _ fade) h
def paintC (p : P13) (a b c d : Int) (g : Nat → Int) (mode fade x : Int) (f : Nat → B4) (i : Nat) : B4 := inkC p mode fade (atI a b c d g ((i : Int) % x) ((i : Int) / x)) ((i : Int) % x) ((i : Int) / x) (f i)
noncomputable def paintOn (p : P13) (a b c d : Int) (m : Nat) (g : Nat → Int) (mode fade x y : Int) (n : Nat) (f : Nat → B4) : Nat → B4 := if surfOkB x y n f = true ∧ maskOkB a b c d m g = true ∧ paintOkB p = true then paintC p a b c d g mode fade x f else f
theorem paint_ok {p : P13} {a b c d : Int} {m : Nat} {g : Nat → Int} {mode fade x y : Int} {n : Nat} {f : Nat → B4} (h : SOk x y n f) : SOk x y n (paintOn p a b c d m g mode fade x y n f) := by
  unfold paintOn
  split
  · exact h.congr fun i hi => ink_laid _ _ _ _ _ _ (h.2.2.2 i hi)
  · exact h
/-- Where square px, py lies, and back. -/
theorem sq_back {x px py : Int} (hx : 1 ≤ x) (h0 : 0 ≤ px) (h1 : px < x) : (py * x + px) % x = px ∧ (py * x + px) / x = py := by
  constructor
  · rw [Int.add_comm, Int.add_mul_emod_self_right]; exact Int.emod_eq_of_lt h0 h1
  · rw [Int.add_comm, Int.add_mul_ediv_right _ _ (by omega), Int.ediv_eq_zero_of_lt h0 h1]; omega
/-- The first k are F's, the others f's. -/
def upTo (F f : Nat → B4) (k : Nat) (i : Nat) : B4 := if i < k then F i else f i
theorem upTo_none (F f : Nat → B4) : upTo F f 0 = f := by funext i; unfold upTo; rw [if_neg (by omega)]
theorem upTo_at (F f : Nat → B4) (k : Nat) : upTo F f k k = f k := by unfold upTo; rw [if_neg (by omega)]
theorem upTo_step {F f : Nat → B4} {k : Nat} : upTo F f (k + 1) = fun i => if i = k then F k else upTo F f k i := by
  funext i
  unfold upTo
  by_cases h : i = k
  · subst h; rw [if_pos (by omega), if_pos rfl]
  · rw [if_neg h]
    by_cases h1 : i < k
    · rw [if_pos h1, if_pos (by omega)]
    · rw [if_neg h1, if_neg (by omega)]
theorem upTo_same {F f : Nat → B4} {k : Nat} (h : F k = f k) : upTo F f (k + 1) = upTo F f k := by
  rw [upTo_step]
  funext i
  by_cases h1 : i = k
  · rw [if_pos h1, h1, h, upTo_at]
  · rw [if_neg h1]
theorem upTo_all {F f : Nat → B4} {n i : Nat} (h : i < n) : upTo F f n i = F i := by unfold upTo; rw [if_pos h]
theorem bx_put {xs : List Value} {G : Nat → B4} {n k : Nat} (h : BxAt xs G n) (hl : xs.length = n * 4) (hk : k < n) (c : B4) :
    BxAt ((((xs.set (k * 4) (.int .i64 c.x0)).set (k * 4 + 1) (.int .i64 c.y0)).set (k * 4 + 2) (.int .i64 c.x1)).set (k * 4 + 3) (.int .i64 c.y1)) (fun i => if i = k then c else G i) n := by
  intro j hj
  obtain ⟨h0, h1, h2, h3⟩ := h j hj
  dsimp only
  by_cases hjk : j = k
  · subst hjk
    rw [if_pos rfl]
    refine ⟨?_, ?_, ?_, ?_⟩
    · rw [List.getElem?_set_ne (by omega), List.getElem?_set_ne (by omega), List.getElem?_set_ne (by omega), List.getElem?_set_self (by omega)]
    · rw [List.getElem?_set_ne (by omega), List.getElem?_set_ne (by omega), List.getElem?_set_self (by rw [List.length_set]; omega)]
    · rw [List.getElem?_set_ne (by omega), List.getElem?_set_self (by rw [List.length_set, List.length_set]; omega)]
    · rw [List.getElem?_set_self (by rw [List.length_set, List.length_set, List.length_set]; omega)]
  · rw [if_neg hjk]
    refine ⟨?_, ?_, ?_, ?_⟩
    all_goals rw [List.getElem?_set_ne (by omega), List.getElem?_set_ne (by omega), List.getElem?_set_ne (by omega), List.getElem?_set_ne (by omega)]
    · exact h0
    · exact h1
    · exact h2
    · exact h3
end Go.Proofs.Ythelfgippiimiab

/-
  The specification's LayOver.
-/
namespace Go.Proofs.Ythelfgippiimiab
open Go.RowKit
set_option linter.unusedVariables false

theorem grown_put4' {a w : World} {g : Nat} (h : a.grownBy w (some g)) (o0 o1 o2 o3 : Nat) (x y z u : Value) : a.grownBy ((((w.setCell ⟨g, o0, none⟩ x).setCell ⟨g, o1, none⟩ y).setCell ⟨g, o2, none⟩ z).setCell ⟨g, o3, none⟩ u) (some g) := by
  refine ⟨h.os, h.tape, h.output, ?_, fun k hk hne => ?_⟩
  · rw [setc_size, setc_size, setc_size, setc_size]; exact h.size
  · have hne' : k ≠ g := fun e => hne (by rw [e])
    rw [← h.block k hk hne]
    simp [World.setCell, Array.getElem?_modify, Ne.symm hne']
theorem row_grown' {u v : World} {b g : Nat} {o : Obj} (hg : u.grownBy v (some g)) (hne : b ≠ g) (h : u.heap[b]? = some o) : v.heap[b]? = some o := (hg.block b (heap_lt h) (fun e => hne (Option.some.inj e))).trans h
theorem cell_grown' {u v : World} {g : Nat} {p : Addr} {x : Value} (hg : u.grownBy v (some g)) (hne : p.block ≠ g) (h : u.cell? p = some x) : v.cell? p = some x := hg.cell h (fun e => hne (Option.some.inj e))

set_option maxHeartbeats 16000000 in
set_option maxRecDepth 100000 in
theorem specLayOver_any (x y : Int) (f : Nat → B4) (ao : Option Addr) (n cp : Nat) (hn : n ≤ 1048576) (hao : ao = none → cp = 0)
    (x' y' : Int) (f' : Nat → B4) (bo : Option Addr) (n' cp' : Nat) (hn' : n' ≤ 1048576) (mode fade : Int) (w : World) (P : ∀ i, i < n → ClAt w ao i (f i)) (Q : ∀ i, i < n' → ClAt w bo i (f' i)) :
    Calls Try.prog 25 #[.agg #[.int .i64 x, .int .i64 y, .slice ao n cp], .agg #[.int .i64 x', .int .i64 y', .slice bo n' cp'], .int .i64 mode, .int .i64 fade] w fun r w' => SurfRes w r w' x y n (layOn mode fade x y n f x' y' n' f') := by
  have EC := hide (fun u => specL14Copy_any x y f ao n cp hn hao u)
  have ES := hide (fun u => specSurfaceOk_any x y f ao n cp hn u)
  have EM := hide (fun u => specSurfaceOk_any x' y' f' bo n' cp' hn' u)
  replace P := hide P
  replace Q := hide Q
  have hF : Hid (layOn mode fade x y n f x' y' n' f' = if surfOkB x y n f = true ∧ surfOkB x' y' n' f' = true ∧ x = x' ∧ y = y' then (fun i => layC mode fade (f i) (f' i)) else f) := rfl
  have hS : Hid (surfOkB x y n f = true → SOk x y n f) := fun h => surfOk_iff.1 h
  have hM : Hid (surfOkB x' y' n' f' = true → SOk x' y' n' f') := fun h => surfOk_iff.1 h
  generalize layOn mode fade x y n f x' y' n' f' = F at hF ⊢
  generalize surfOkB x y n f = X1 at ES hF hS
  generalize surfOkB x' y' n' f' = X2 at EM hF hM
  unfold SurfRes
  go_enter Try.func25, Try.ntmps25
  go_upto_region 1 with fail
  have R4 := hide (al3_0 w (.cells #[.int .i64 x, .int .i64 y, .slice ao n cp] 62) (.cells #[.int .i64 x', .int .i64 y', .slice bo n' cp'] 62) (.cells #[.int .i64 0, .int .i64 0, .slice none 0 0] 62))
  have R5 := hide (al3_1 w (.cells #[.int .i64 x, .int .i64 y, .slice ao n cp] 62) (.cells #[.int .i64 x', .int .i64 y', .slice bo n' cp'] 62) (.cells #[.int .i64 0, .int .i64 0, .slice none 0 0] 62))
  have R8 := hide (al3_2 w (.cells #[.int .i64 x, .int .i64 y, .slice ao n cp] 62) (.cells #[.int .i64 x', .int .i64 y', .slice bo n' cp'] 62) (.cells #[.int .i64 0, .int .i64 0, .slice none 0 0] 62))
  have HB := hide (al3_below w (.cells #[.int .i64 x, .int .i64 y, .slice ao n cp] 62) (.cells #[.int .i64 x', .int .i64 y', .slice bo n' cp'] 62) (.cells #[.int .i64 0, .int .i64 0, .slice none 0 0] 62))
  obtain ⟨b8, hb8⟩ : ∃ b, Hid (b = w.heap.size + 1 + 1) := ⟨_, rfl⟩
  obtain ⟨b5, hb5⟩ : ∃ b, Hid (b = w.heap.size + 1) := ⟨_, rfl⟩
  obtain ⟨b4, hb4⟩ : ∃ b, Hid (b = w.heap.size) := ⟨_, rfl⟩
  have lz : Hid (w.heap.size ≤ b8) := by unfold Hid; rw [unhide hb8]; omega
  rw [← unhide hb8] at R8
  rw [← unhide hb5] at R5
  rw [← unhide hb4] at R4
  rw [← unhide hb8, ← unhide hb5, ← unhide hb4]
  generalize ((w.alloc (.cells #[.int .i64 x, .int .i64 y, .slice ao n cp] 62)).alloc (.cells #[.int .i64 x', .int .i64 y', .slice bo n' cp'] 62)).alloc (.cells #[.int .i64 0, .int .i64 0, .slice none 0 0] 62) = W at R4 R5 R8 HB ⊢
  clear hb8 hb5 hb4
  obtain ⟨p0, p1, p2⟩ := row3 (unhide R4)
  have l0 := hide (show b4 < W.heap.size ∧ b5 < W.heap.size ∧ b8 < W.heap.size from ⟨heap_lt (unhide R4), heap_lt (unhide R5), heap_lt (unhide R8)⟩)
  have lW := hide (unhide HB).size
  have E2 := hide (unhide EC W (fun i hi => (unhide P i hi).next (unhide HB)))
  go_wp2_with fail
  go_fit (unhide E2)
  rintro r w1 ⟨gp, gc, rfl, hO, hb⟩
  replace R4 := hide (row_next hb (unhide R4))
  replace R5 := hide (row_next hb (unhide R5))
  replace R8 := hide (row_next hb (unhide R8))
  replace HB := hide (below_two (unhide HB) hb)
  clear hb p0 p1 p2 E2
  replace hO := hide hO
  go_upto_region 2 with fail
  have R9 := hide (new_row w1 (.cells #[.int .i64 x, .int .i64 y, .slice gp n gc] 62))
  have l1 := hide (show ∀ k, (Value.slice gp n gc).ownBlock = some k → W.heap.size ≤ k ∧ k < w1.heap.size from (unhide hO).lt)
  replace R4 := hide (row_next (al1_below w1 (.cells #[.int .i64 x, .int .i64 y, .slice gp n gc] 62)) (unhide R4))
  replace R5 := hide (row_next (al1_below w1 (.cells #[.int .i64 x, .int .i64 y, .slice gp n gc] 62)) (unhide R5))
  replace R8 := hide (row_next (al1_below w1 (.cells #[.int .i64 x, .int .i64 y, .slice gp n gc] 62)) (unhide R8))
  replace HB := hide (below_two (unhide HB) (al1_below w1 (.cells #[.int .i64 x, .int .i64 y, .slice gp n gc] 62)))
  replace hO := hide ((unhide hO).next (al1_below w1 (.cells #[.int .i64 x, .int .i64 y, .slice gp n gc] 62)))
  generalize w1.alloc (.cells #[.int .i64 x, .int .i64 y, .slice gp n gc] 62) = W1 at R4 R5 R8 R9 HB hO ⊢
  generalize w1.heap.size = b9 at R9 l1 ⊢
  obtain ⟨p0, p1, p2⟩ := row3 (unhide R4)
  have E2 := hide (unhide ES W1 (fun i hi => (unhide P i hi).next (unhide HB)))
  go_wp2_with fail
  go_fit (unhide E2)
  rintro r w2 ⟨rfl, hb⟩
  replace R4 := hide (row_next hb (unhide R4))
  replace R5 := hide (row_next hb (unhide R5))
  replace R8 := hide (row_next hb (unhide R8))
  replace R9 := hide (row_next hb (unhide R9))
  replace HB := hide (below_two (unhide HB) hb)
  replace hO := hide ((unhide hO).next hb)
  clear hb p0 p1 p2 E2
  cases X1 with
  | false =>
    have hFn := hide (show F = f by rw [unhide hF, if_neg (by rintro ⟨h, _⟩; cases h)])
    obtain ⟨e0, e1, e2⟩ := row3 (unhide R8)
    obtain ⟨f0, f1, f2⟩ := frozen3 (unhide R8)
    obtain ⟨q0, q1, q2⟩ := row3 (unhide R9)
    go_wp2_with fail
    refine bodyPost_ret (v := .agg #[.int .i64 x, .int .i64 y, .slice gp n gc]) (by simp [results, Try.results25, go_sem, e0, e1, e2]) rfl ⟨gp, gc, rfl, ?_, below_put3 (unhide HB) (unhide lz) _ _ _⟩
    obtain ⟨xs, o1, hx1⟩ := unhide hO
    rw [unhide hFn]
    exact ⟨xs, own_low (own_put3 o1 (fun k hk => by have := (unhide l1 k hk).1; have := unhide l0; omega) _ _ _) (unhide lW), hx1⟩
  | true =>
  obtain ⟨p0, p1, p2⟩ := row3 (unhide R5)
  have E2 := hide (unhide EM w2 (fun i hi => (unhide Q i hi).next (unhide HB)))
  go_wp2_with fail
  go_fit (unhide E2)
  rintro r w3 ⟨rfl, hb⟩
  replace R4 := hide (row_next hb (unhide R4))
  replace R5 := hide (row_next hb (unhide R5))
  replace R8 := hide (row_next hb (unhide R8))
  replace R9 := hide (row_next hb (unhide R9))
  replace HB := hide (below_two (unhide HB) hb)
  replace hO := hide ((unhide hO).next hb)
  clear hb p0 p1 p2 E2
  cases X2 with
  | false =>
    have hFn := hide (show F = f by rw [unhide hF, if_neg (by rintro ⟨_, h, _⟩; cases h)])
    obtain ⟨e0, e1, e2⟩ := row3 (unhide R8)
    obtain ⟨f0, f1, f2⟩ := frozen3 (unhide R8)
    obtain ⟨q0, q1, q2⟩ := row3 (unhide R9)
    go_wp2_with fail
    refine bodyPost_ret (v := .agg #[.int .i64 x, .int .i64 y, .slice gp n gc]) (by simp [results, Try.results25, go_sem, e0, e1, e2]) rfl ⟨gp, gc, rfl, ?_, below_put3 (unhide HB) (unhide lz) _ _ _⟩
    obtain ⟨xs, o1, hx1⟩ := unhide hO
    rw [unhide hFn]
    exact ⟨xs, own_low (own_put3 o1 (fun k hk => by have := (unhide l1 k hk).1; have := unhide l0; omega) _ _ _) (unhide lW), hx1⟩
  | true =>
  obtain ⟨p0, p1, p2⟩ := row3 (unhide R4)
  obtain ⟨t0, t1, t2⟩ := row3 (unhide R5)
  by_cases hx : x = x'
  · by_cases hy : y = y'
    · have sok := unhide hS (by trivial)
      have sok' := unhide hM (by trivial)
      have hFy := hide (show F = (fun i => layC mode fade (f i) (f' i)) by rw [unhide hF, if_pos ⟨by trivial, by trivial, hx, hy⟩])
      have hnn : n = n' := by have h1 := sok.2.2.1; have h2 := sok'.2.2.1; rw [hx, hy, ← h2] at h1; omega
      have sle := sok.le
      subst hx hy hnn
      clear hF hS hM EM ES EC sok sok'
      obtain ⟨gb, rfl⟩ : ∃ gb, gp = some ⟨gb, 0, none⟩ := by
        obtain ⟨xs, o1, _⟩ := unhide hO
        obtain ⟨gb, cap, e, _⟩ := own_at o1 (by omega)
        cases e
        exact ⟨gb, rfl⟩
      have lg := hide (show W.heap.size ≤ gb ∧ gb < b9 from unhide l1 gb rfl)
      clear l1
      obtain ⟨G, hG⟩ : ∃ G, Hid ((fun i => layC mode fade (f i) (f' i)) = G) := ⟨_, rfl⟩
      have hGk : Hid (∀ k : Nat, G k = blendC mode (fadeC (f' k) fade) (f k)) := fun k => by rw [← unhide hG]; rfl
      rw [unhide hG] at hFy
      clear hG
      have hO0 := hide (show ColsV w3 W.heap.size (.slice (some ⟨gb, 0, none⟩) n gc) n (upTo G f 0) by rw [upTo_none]; exact unhide hO)
      go_upto_region 4 with fail
      go_wp2_with fail
      clear p0 p1 p2 t0 t1 t2
      go_loopw [10] (fun i u => ∃ k : Nat, k ≤ n ∧ i = .int .i64 k ∧ Hid (u.heap[b4]? = some (.cells #[.int .i64 x, .int .i64 y, .slice ao n cp] 62 (0, 0))) ∧ Hid (u.heap[b5]? = some (.cells #[.int .i64 x, .int .i64 y, .slice bo n cp'] 62 (0, 0))) ∧ Hid (u.heap[b8]? = some (.cells #[.int .i64 0, .int .i64 0, .slice none 0 0] 62 (0, 0))) ∧ Hid (u.heap[b9]? = some (.cells #[.int .i64 x, .int .i64 y, .slice (some ⟨gb, 0, none⟩) n gc] 62 (0, 0))) ∧ Hid (Below w.heap.size w u) ∧ Hid (ColsV u W.heap.size (.slice (some ⟨gb, 0, none⟩) n gc) n (upTo G f k))) (fun i _ => n - (intOf i).toNat)
      case atStart => exact ⟨0, by omega, rfl, R4, R5, R8, R9, HB, hO0⟩
      case round =>
        clear R4 R5 R8 R9 HB hO hO0
        obtain ⟨k, hk, rfl, R4, R5, R8, R9, HB, hO⟩ := hrel
        obtain ⟨p0, p1, p2⟩ := row3 (unhide R4)
        by_cases hkn : k < n
        · have HP0 := unhide P k hkn
          have HP := HP0.next (unhide HB)
          have HQ0 := unhide Q k hkn
          have HQ := HQ0.next (unhide HB)
          have hGb := hide (unhide hGk k)
          obtain ⟨zz, hzz⟩ : ∃ zz, Hid (f k = zz) := ⟨_, rfl⟩
          obtain ⟨yy, hyy⟩ : ∃ yy, Hid (f' k = yy) := ⟨_, rfl⟩
          rw [unhide hzz] at HP HP0 hGb
          rw [unhide hyy] at HQ HQ0 hGb
          obtain ⟨z0, z1, z2, z3⟩ := zz
          obtain ⟨y0, y1, y2, y3⟩ := yy
          obtain ⟨s0, o0, rfl, g0, g1, g2, g3⟩ := HP
          obtain ⟨s0', o0', ee, g0', _⟩ := HP0
          cases ee
          obtain ⟨s5, o5, rfl, h0, h1, h2, h3⟩ := HQ
          obtain ⟨s5', o5', ee, h0', _⟩ := HQ0
          cases ee
          have ls0 := hide (show s0 < w.heap.size ∧ s5 < w.heap.size from ⟨block_lt_of_cell g0', block_lt_of_cell h0'⟩)
          clear g0' h0'
          dsimp only at g0 g1 g2 g3 h0 h1 h2 h3
          replace g0 := hide g0
          replace g1 := hide g1
          replace g2 := hide g2
          replace g3 := hide g3
          replace h0 := hide h0
          replace h1 := hide h1
          replace h2 := hide h2
          replace h3 := hide h3
          have EF1 := hide (specFade_any y0 y1 y2 y3 fade)
          generalize fadeC ⟨y0, y1, y2, y3⟩ fade = D at EF1 hGb
          obtain ⟨D0, D1, D2, D3⟩ := D
          dsimp only at EF1
          have EBL := hide (specBlend_any mode D0 D1 D2 D3 z0 z1 z2 z3)
          generalize blendC mode ⟨D0, D1, D2, D3⟩ ⟨z0, z1, z2, z3⟩ = BB at EBL hGb
          obtain ⟨B0, B1, B2, B3⟩ := BB
          dsimp only at EBL
          have hkn' : (k : Int) < (n : Int) := by omega
          have hkn0 : ¬ (k : Int) < 0 := by omega
          have vk : IntKind.i64.wrap ((k : Int) + 1) = (k : Int) + 1 := IntWalk.i64_in _ (by omega)
          go_upto_region 7 with fail
          clear p0 p1 p2
          have k0 := hide (show ∀ u, wr.grownBy u (some gb) → (u.cell? ⟨b9, 2, none⟩ = some (.slice (some ⟨gb, 0, none⟩) n gc) ∧ u.cell? ⟨b4, 2, none⟩ = some (.slice (some ⟨s0, o0, none⟩) n cp) ∧ u.cell? ⟨b5, 2, none⟩ = some (.slice (some ⟨s5, o5, none⟩) n cp') ∧ u.cell? ⟨s0, o0 + k * 4, none⟩ = some (.int .i64 z0) ∧ u.cell? ⟨s0, o0 + k * 4 + 1, none⟩ = some (.int .i64 z1) ∧ u.cell? ⟨s0, o0 + k * 4 + 2, none⟩ = some (.int .i64 z2) ∧ u.cell? ⟨s0, o0 + k * 4 + 3, none⟩ = some (.int .i64 z3) ∧ u.cell? ⟨s5, o5 + k * 4, none⟩ = some (.int .i64 y0) ∧ u.cell? ⟨s5, o5 + k * 4 + 1, none⟩ = some (.int .i64 y1) ∧ u.cell? ⟨s5, o5 + k * 4 + 2, none⟩ = some (.int .i64 y2) ∧ u.cell? ⟨s5, o5 + k * 4 + 3, none⟩ = some (.int .i64 y3) ∧ wr.grownBy u (some gb)) from fun u h => by
            obtain ⟨p0, p1, p2⟩ := row3 (row_grown' h (by have := unhide l0; have := unhide lg; omega) (unhide R4))
            obtain ⟨t0, t1, t2⟩ := row3 (row_grown' h (by have := unhide l0; have := unhide lg; omega) (unhide R5))
            obtain ⟨r0, r1, r2⟩ := row3 (row_grown' h (by have := unhide lg; omega) (unhide R9))
            have hs : s0 ≠ gb := by have := unhide ls0; have := unhide lg; have := unhide lW; omega
            have ht : s5 ≠ gb := by have := unhide ls0; have := unhide lg; have := unhide lW; omega
            exact ⟨r2, p2, t2, cell_grown' h hs (unhide g0), cell_grown' h hs (unhide g1), cell_grown' h hs (unhide g2), cell_grown' h hs (unhide g3), cell_grown' h ht (unhide h0), cell_grown' h ht (unhide h1), cell_grown' h ht (unhide h2), cell_grown' h ht (unhide h3), h⟩)
          have k00 := hide (unhide k0 _ (show wr.grownBy wr.drew (some gb) from ⟨rfl, rfl, rfl, Nat.le_refl _, fun _ _ _ => rfl⟩))
          go_region_held3 (fun u => u.cell? ⟨b9, 2, none⟩ = some (.slice (some ⟨gb, 0, none⟩) n gc) ∧ u.cell? ⟨b4, 2, none⟩ = some (.slice (some ⟨s0, o0, none⟩) n cp) ∧ u.cell? ⟨b5, 2, none⟩ = some (.slice (some ⟨s5, o5, none⟩) n cp') ∧ u.cell? ⟨s0, o0 + k * 4, none⟩ = some (.int .i64 z0) ∧ u.cell? ⟨s0, o0 + k * 4 + 1, none⟩ = some (.int .i64 z1) ∧ u.cell? ⟨s0, o0 + k * 4 + 2, none⟩ = some (.int .i64 z2) ∧ u.cell? ⟨s0, o0 + k * 4 + 3, none⟩ = some (.int .i64 z3) ∧ u.cell? ⟨s5, o5 + k * 4, none⟩ = some (.int .i64 y0) ∧ u.cell? ⟨s5, o5 + k * 4 + 1, none⟩ = some (.int .i64 y1) ∧ u.cell? ⟨s5, o5 + k * 4 + 2, none⟩ = some (.int .i64 y2) ∧ u.cell? ⟨s5, o5 + k * 4 + 3, none⟩ = some (.int .i64 y3) ∧ wr.grownBy u (some gb)) ((first | with_reducible exact unhide k00 | (with_reducible refine unhide k0 _ ?_; first | with_reducible assumption | (with_reducible refine grown_put4' ?_ _ _ _ _ _ _ _ _; with_reducible assumption)))) (first | (go_at_call 62; go_fit (unhide EF1 _); rintro r w8 ⟨rfl, hb8⟩; have h8 := below_undrew hb8; clear hb8; have hg8 := grown_of_below h8 (some gb)) | (go_at_call 18; go_fit (unhide EBL _); rintro r w9 ⟨rfl, hb9⟩; have h9 := below_two h8 hb9; clear hb9 hg8 h8; have hg9 := grown_of_below h9 (some gb); obtain ⟨xs9, o9, x9⟩ := (unhide hO).next h9; obtain ⟨q0, q1, q2, q3, t0, t1, t2, t3⟩ := own_cell4 o9 hkn; have f0 := o9.frozenAt (k * 4); have f1 := o9.frozenAt (k * 4 + 1); have f2 := o9.frozenAt (k * 4 + 2); have f3 := o9.frozenAt (k * 4 + 3); replace o9 := hide o9; replace x9 := hide x9))
          all_goals
            go_wp2_with fail
            go_roundw
            case rel =>
              have hgg := grown_put4' hg9 (k * 4) (k * 4 + 1) (k * 4 + 2) (k * 4 + 3) (.int .i64 B0) (.int .i64 B1) (.int .i64 B2) (.int .i64 B3)
              have n5 : b4 ≠ gb ∧ b5 ≠ gb ∧ b8 ≠ gb ∧ b9 ≠ gb := by have := unhide l0; have := unhide lg; omega
              refine ⟨k + 1, by omega, by go_num, row_grown' hgg n5.1 (unhide R4), row_grown' hgg n5.2.1 (unhide R5), row_grown' hgg n5.2.2.1 (unhide R8), row_grown' hgg n5.2.2.2 (unhide R9), below_at4 (below_two (unhide HB) h9) (by have := unhide lg; have := unhide lW; omega) _ _ _ _ _ _ _ _, ?_⟩
              refine ⟨_, own_put4 (unhide o9) _ _ _ _, ?_⟩
              rw [upTo_step, unhide hGb]
              exact bx_put (unhide x9) (unhide o9).1 hkn ⟨B0, B1, B2, B3⟩
            case measure => simp [intOf]; omega
        · have hke : k = n := by omega
          have hki : ¬ (k : Int) < (n : Int) := by omega
          obtain ⟨e0, e1, e2⟩ := row3 (unhide R8)
          obtain ⟨f0, f1, f2⟩ := frozen3 (unhide R8)
          obtain ⟨q0, q1, q2⟩ := row3 (unhide R9)
          go_wp2_with fail
          refine bodyPost_ret (v := .agg #[.int .i64 x, .int .i64 y, .slice (some ⟨gb, 0, none⟩) n gc]) (by simp [results, Try.results25, go_sem, e0, e1, e2]) rfl ⟨_, gc, rfl, ?_, below_put3 (unhide HB) (unhide lz) _ _ _⟩
          obtain ⟨xs, o1, hx1⟩ := unhide hO
          rw [hke] at hx1
          rw [unhide hFy]
          exact ⟨xs, own_low (own_put3 o1 (fun k hk => by have e : gb = k := Option.some.inj hk; have := unhide lg; have := unhide l0; omega) _ _ _) (unhide lW), fun i hi => by have := hx1 i hi; rw [upTo_all hi] at this; exact this⟩
    · have hyb : (y == y') = false := beq_eq_false_iff_ne.2 hy
      subst hx
      have hFn := hide (show F = f by rw [unhide hF, if_neg (by rintro ⟨_, _, _, h⟩; exact hy h)])
      obtain ⟨e0, e1, e2⟩ := row3 (unhide R8)
      obtain ⟨f0, f1, f2⟩ := frozen3 (unhide R8)
      obtain ⟨q0, q1, q2⟩ := row3 (unhide R9)
      go_wp2_with fail
      refine bodyPost_ret (v := .agg #[.int .i64 x, .int .i64 y, .slice gp n gc]) (by simp [results, Try.results25, go_sem, e0, e1, e2]) rfl ⟨gp, gc, rfl, ?_, below_put3 (unhide HB) (unhide lz) _ _ _⟩
      obtain ⟨xs, o1, hx1⟩ := unhide hO
      rw [unhide hFn]
      exact ⟨xs, own_low (own_put3 o1 (fun k hk => by have := (unhide l1 k hk).1; have := unhide l0; omega) _ _ _) (unhide lW), hx1⟩
  · have hxb : (x == x') = false := beq_eq_false_iff_ne.2 hx
    have hFn := hide (show F = f by rw [unhide hF, if_neg (by rintro ⟨_, _, h, _⟩; exact hx h)])
    obtain ⟨e0, e1, e2⟩ := row3 (unhide R8)
    obtain ⟨f0, f1, f2⟩ := frozen3 (unhide R8)
    obtain ⟨q0, q1, q2⟩ := row3 (unhide R9)
    go_wp2_with fail
    refine bodyPost_ret (v := .agg #[.int .i64 x, .int .i64 y, .slice gp n gc]) (by simp [results, Try.results25, go_sem, e0, e1, e2]) rfl ⟨gp, gc, rfl, ?_, below_put3 (unhide HB) (unhide lz) _ _ _⟩
    obtain ⟨xs, o1, hx1⟩ := unhide hO
    rw [unhide hFn]
    exact ⟨xs, own_low (own_put3 o1 (fun k hk => by have := (unhide l1 k hk).1; have := unhide l0; omega) _ _ _) (unhide lW), hx1⟩
end Go.Proofs.Ythelfgippiimiab
