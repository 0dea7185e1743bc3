/-
  The law of RectPath (made by rectlaw.py).
-/
import Derived.Test.YtplbamcoobafgaaPathV
import Derived.Test.YtplbamcoobafgaaRectI
namespace Go.Proofs.Ytplbamcoobafgaa
open Go.RowKit

set_option maxHeartbeats 8000000 in
set_option maxRecDepth 100000 in
theorem fnExactRectPath_walk (a b c d : Int) (_ : (Lit.int .i64 a).wf = true) (_ : (Lit.int .i64 b).wf = true) (_ : (Lit.int .i64 c).wf = true) (_ : (Lit.int .i64 d).wf = true) (w : World) :
    Calls Try.prog 3 #[.agg #[.int .i64 a, .int .i64 b, .int .i64 c, .int .i64 d]] w fun r w' => r = .returned (.bool true) ∧ Below w.heap.size w w' := by
  have T := hide (toBox_any a b c d)
  have S := hide (specRectPath_any a b c d)
  have I := hide (implRectPath_any a b c d)
  have hn : rectN (rectOk a b c d) ≤ 1048576 := by unfold rectN; split <;> omega
  have hm : rectM (rectOk a b c d) ≤ 1048576 := by unfold rectM; split <;> omega
  generalize rectN (rectOk a b c d) = n at S I hn
  generalize rectM (rectOk a b c d) = m at S I hm
  generalize rectP a b c d = pf at S I
  generalize rectV = vf at S I
  have EP := hide (fun (b0 b1 c d c' d' : Nat) (a b a' b' : Option Addr) (w : World) h0 h1 => @eqPath_v b0 b1 n m c d c' d' a b a' b' vf pf hn hm w h0 h1)
  have MP := hide (fun (v1 v2 : Value) (base : Nat) (w : World) h => @markPath_v v1 v2 base n m vf pf hn hm w h)
  have HP := hide (fun (v1 v2 : Value) (base : Nat) (w : World) h => @heldPath_v v1 v2 base n m hn hm w h)
  have hq : ¬ (((1 + n + m * 2 : Nat) : Int) < 0) := by omega
  generalize ((1 + n + m * 2 : Nat) : Int) = q at MP HP hq
  clear hn hm
  go_enter Try.func3, Try.ntmps3
  go_wp2_with fail
  have HB := hide (Below.refl w.heap.size w)
  obtain ⟨W1, hW⟩ : ∃ W, W = w.alloc (.cells #[.int .i64 a, .int .i64 b, .int .i64 c, .int .i64 d] 23) := ⟨_, rfl⟩
  have hn := hide (show Below w.heap.size w W1 by rw [hW]; exact below_new _ (Below.refl _ _) (Nat.le_refl _))
  have RB := hide (show W1.heap[w.heap.size]? = some (.cells #[.int .i64 a, .int .i64 b, .int .i64 c, .int .i64 d] 23 (0, 0)) by rw [hW]; exact new_row _ _)
  rw [← hW]
  clear hW
  replace HB := hide (below_two (unhide HB) (unhide hn))
  clear hn
  go_fit (unhide T _)
  rintro r w2 ⟨rfl, hb⟩
  replace RB := hide (row_next hb (unhide RB))
  replace HB := hide (below_two (unhide HB) hb)
  clear hb
  go_wp2_with fail
  go_fit (unhide S _)
  intro r w3 hres
  obtain ⟨a4, c4, b4, d4, rfl, hp, hb⟩ := PathRes.open hres
  clear hres
  have k_RB_p0 := hide (fun u u' (ho : Only u u' (.slice a4 n c4) (.slice b4 m d4)) (base) (hb : base = w2.heap.size) (hv : PathV u base (.slice a4 n c4) (.slice b4 m d4) n m vf pf) (hr : u.heap[w.heap.size]? = some (.cells #[.int .i64 a, .int .i64 b, .int .i64 c, .int .i64 d] 23 (0, 0))) => ho.old hv hr (by rw [hb]; exact heap_lt (unhide RB)))
  have p0 := hide hp
  clear hp
  have lb_p0 := hide (show w.heap.size ≤ w2.heap.size from (unhide HB).size)
  replace RB := hide (row_next hb (unhide RB))
  replace HB := hide (below_two (unhide HB) hb)
  clear hb
  obtain ⟨q_RB_0, q_RB_1, q_RB_2, q_RB_3⟩ := row4 (old_row (.cells #[.slice a4 n c4, .slice b4 m d4] 27) (unhide RB))
  go_wp2_with fail
  clear q_RB_0 q_RB_1 q_RB_2 q_RB_3
  have old_p0 := p0
  obtain ⟨W5, hW⟩ : ∃ W, W = w3.alloc (.cells #[.slice a4 n c4, .slice b4 m d4] 27) := ⟨_, rfl⟩
  have hn := hide (show Below w3.heap.size w3 W5 by rw [hW]; exact below_new _ (Below.refl _ _) (Nat.le_refl _))
  have R0 := hide (show W5.heap[w3.heap.size]? = some (.cells #[.slice a4 n c4, .slice b4 m d4] 27 (0, 0)) by rw [hW]; exact new_row _ _)
  rw [← hW]
  clear hW
  replace RB := hide (row_next (unhide hn) (unhide RB))
  replace p0 := hide ((unhide p0).next (unhide hn))
  replace HB := hide (below_two (unhide HB) (unhide hn))
  clear hn
  have ge_R0_p0 := hide (show w3.heap.size ≤ w3.heap.size from Nat.le_refl _)
  go_fit (unhide T _)
  rintro r w6 ⟨rfl, hb⟩
  replace RB := hide (row_next hb (unhide RB))
  replace R0 := hide (row_next hb (unhide R0))
  replace p0 := hide ((unhide p0).next hb)
  replace HB := hide (below_two (unhide HB) hb)
  clear hb
  go_wp2_with fail
  go_fit (unhide I _)
  intro r w7 hres
  obtain ⟨a8, c8, b8, d8, rfl, hp, hb⟩ := PathRes.open hres
  clear hres
  have k_RB_p1 := hide (fun u u' (ho : Only u u' (.slice a8 n c8) (.slice b8 m d8)) (base) (hb : base = w6.heap.size) (hv : PathV u base (.slice a8 n c8) (.slice b8 m d8) n m vf pf) (hr : u.heap[w.heap.size]? = some (.cells #[.int .i64 a, .int .i64 b, .int .i64 c, .int .i64 d] 23 (0, 0))) => ho.old hv hr (by rw [hb]; exact heap_lt (unhide RB)))
  have k_R0_p1 := hide (fun u u' (ho : Only u u' (.slice a8 n c8) (.slice b8 m d8)) (base) (hb : base = w6.heap.size) (hv : PathV u base (.slice a8 n c8) (.slice b8 m d8) n m vf pf) (hr : u.heap[w3.heap.size]? = some (.cells #[.slice a4 n c4, .slice b4 m d4] 27 (0, 0))) => ho.old hv hr (by rw [hb]; exact heap_lt (unhide R0)))
  have ap_p0_p1 := hide ((unhide p0).far hp (Nat.le_refl _))
  have p1 := hide hp
  clear hp
  have lb_p1 := hide (show w.heap.size ≤ w6.heap.size from (unhide HB).size)
  replace RB := hide (row_next hb (unhide RB))
  replace R0 := hide (row_next hb (unhide R0))
  replace p0 := hide ((unhide p0).next hb)
  replace HB := hide (below_two (unhide HB) hb)
  clear hb
  obtain ⟨q_R0_0, q_R0_1⟩ := row2 (old_row (.cells #[.slice a8 n c8, .slice b8 m d8] 27) (unhide R0))
  go_wp2_with fail
  clear q_R0_0 q_R0_1
  have old_p1 := p1
  obtain ⟨W9, hW⟩ : ∃ W, W = w7.alloc (.cells #[.slice a8 n c8, .slice b8 m d8] 27) := ⟨_, rfl⟩
  have hn := hide (show Below w7.heap.size w7 W9 by rw [hW]; exact below_new _ (Below.refl _ _) (Nat.le_refl _))
  have R1 := hide (show W9.heap[w7.heap.size]? = some (.cells #[.slice a8 n c8, .slice b8 m d8] 27 (0, 0)) by rw [hW]; exact new_row _ _)
  rw [← hW]
  clear hW
  replace RB := hide (row_next (unhide hn) (unhide RB))
  replace R0 := hide (row_next (unhide hn) (unhide R0))
  replace p0 := hide ((unhide p0).next (unhide hn))
  replace p1 := hide ((unhide p1).next (unhide hn))
  replace HB := hide (below_two (unhide HB) (unhide hn))
  clear hn
  have ge_R1_p1 := hide (show w7.heap.size ≤ w7.heap.size from Nat.le_refl _)
  go_fit (unhide EP _ _ _ _ _ _ _ _ _ _ _ (unhide p1) (unhide p0))
  rintro r w10 ⟨rfl, hb⟩
  replace RB := hide (row_next hb (unhide RB))
  replace R0 := hide (row_next hb (unhide R0))
  replace R1 := hide (row_next hb (unhide R1))
  replace p0 := hide ((unhide p0).next hb)
  replace p1 := hide ((unhide p1).next hb)
  replace HB := hide (below_two (unhide HB) hb)
  clear hb
  obtain ⟨q_R1_0, q_R1_1⟩ := row2 (unhide R1)
  go_wp2_with fail
  clear q_R1_0 q_R1_1
  go_fit (unhide MP _ _ _ _ (unhide p1))
  rintro r w11 ⟨rfl, hm, ho⟩
  replace RB := hide (unhide k_RB_p1 _ _ ho _ rfl (unhide p1) (unhide RB))
  replace R0 := hide (unhide k_R0_p1 _ _ ho _ rfl (unhide p1) (unhide R0))
  replace R1 := hide (ho.new (unhide old_p1) (unhide R1) (unhide ge_R1_p1))
  replace p0 := hide (ho.keep (unhide p0) (unhide ap_p0_p1))
  replace HB := hide (ho.after (unhide p1) (unhide lb_p1) (unhide HB).size (unhide HB))
  replace p1 := hide hm
  clear hm ho
  obtain ⟨q_R1_0, q_R1_1⟩ := row2 (unhide R1)
  go_wp2_with fail
  clear q_R1_0 q_R1_1
  go_fit (unhide HP _ _ _ _ (unhide p1))
  rintro r w12 ⟨rfl, hb⟩
  replace RB := hide (row_next hb (unhide RB))
  replace R0 := hide (row_next hb (unhide R0))
  replace R1 := hide (row_next hb (unhide R1))
  replace p0 := hide ((unhide p0).next hb)
  replace p1 := hide ((unhide p1).next hb)
  replace HB := hide (below_two (unhide HB) hb)
  clear hb
  obtain ⟨q_RB_0, q_RB_1, q_RB_2, q_RB_3⟩ := row4 (unhide RB)
  go_wp2_with fail
  clear q_RB_0 q_RB_1 q_RB_2 q_RB_3
  go_fit (unhide T _)
  rintro r w13 ⟨rfl, hb⟩
  replace RB := hide (row_next hb (unhide RB))
  replace R0 := hide (row_next hb (unhide R0))
  replace R1 := hide (row_next hb (unhide R1))
  replace p0 := hide ((unhide p0).next hb)
  replace p1 := hide ((unhide p1).next hb)
  replace HB := hide (below_two (unhide HB) hb)
  clear hb
  go_wp2_with fail
  go_fit (unhide I _)
  intro r w14 hres
  obtain ⟨a15, c15, b15, d15, rfl, hp, hb⟩ := PathRes.open hres
  clear hres
  have k_RB_p2 := hide (fun u u' (ho : Only u u' (.slice a15 n c15) (.slice b15 m d15)) (base) (hb : base = w13.heap.size) (hv : PathV u base (.slice a15 n c15) (.slice b15 m d15) n m vf pf) (hr : u.heap[w.heap.size]? = some (.cells #[.int .i64 a, .int .i64 b, .int .i64 c, .int .i64 d] 23 (0, 0))) => ho.old hv hr (by rw [hb]; exact heap_lt (unhide RB)))
  have k_R0_p2 := hide (fun u u' (ho : Only u u' (.slice a15 n c15) (.slice b15 m d15)) (base) (hb : base = w13.heap.size) (hv : PathV u base (.slice a15 n c15) (.slice b15 m d15) n m vf pf) (hr : u.heap[w3.heap.size]? = some (.cells #[.slice a4 n c4, .slice b4 m d4] 27 (0, 0))) => ho.old hv hr (by rw [hb]; exact heap_lt (unhide R0)))
  have k_R1_p2 := hide (fun u u' (ho : Only u u' (.slice a15 n c15) (.slice b15 m d15)) (base) (hb : base = w13.heap.size) (hv : PathV u base (.slice a15 n c15) (.slice b15 m d15) n m vf pf) (hr : u.heap[w7.heap.size]? = some (.cells #[.slice a8 n c8, .slice b8 m d8] 27 (0, 0))) => ho.old hv hr (by rw [hb]; exact heap_lt (unhide R1)))
  have ap_p0_p2 := hide ((unhide p0).far hp (Nat.le_refl _))
  have p2 := hide hp
  clear hp
  have lb_p2 := hide (show w.heap.size ≤ w13.heap.size from (unhide HB).size)
  replace RB := hide (row_next hb (unhide RB))
  replace R0 := hide (row_next hb (unhide R0))
  replace R1 := hide (row_next hb (unhide R1))
  replace p0 := hide ((unhide p0).next hb)
  replace p1 := hide ((unhide p1).next hb)
  replace HB := hide (below_two (unhide HB) hb)
  clear hb
  obtain ⟨q_R0_0, q_R0_1⟩ := row2 (old_row (.cells #[.slice a15 n c15, .slice b15 m d15] 27) (unhide R0))
  go_wp2_with fail
  clear q_R0_0 q_R0_1
  have old_p2 := p2
  obtain ⟨W16, hW⟩ : ∃ W, W = w14.alloc (.cells #[.slice a15 n c15, .slice b15 m d15] 27) := ⟨_, rfl⟩
  have hn := hide (show Below w14.heap.size w14 W16 by rw [hW]; exact below_new _ (Below.refl _ _) (Nat.le_refl _))
  have R2 := hide (show W16.heap[w14.heap.size]? = some (.cells #[.slice a15 n c15, .slice b15 m d15] 27 (0, 0)) by rw [hW]; exact new_row _ _)
  rw [← hW]
  clear hW
  replace RB := hide (row_next (unhide hn) (unhide RB))
  replace R0 := hide (row_next (unhide hn) (unhide R0))
  replace R1 := hide (row_next (unhide hn) (unhide R1))
  replace p0 := hide ((unhide p0).next (unhide hn))
  replace p2 := hide ((unhide p2).next (unhide hn))
  replace p1 := hide ((unhide p1).next (unhide hn))
  replace HB := hide (below_two (unhide HB) (unhide hn))
  clear hn
  have ge_R2_p2 := hide (show w14.heap.size ≤ w14.heap.size from Nat.le_refl _)
  go_fit (unhide EP _ _ _ _ _ _ _ _ _ _ _ (unhide p2) (unhide p0))
  rintro r w17 ⟨rfl, hb⟩
  replace RB := hide (row_next hb (unhide RB))
  replace R0 := hide (row_next hb (unhide R0))
  replace R1 := hide (row_next hb (unhide R1))
  replace R2 := hide (row_next hb (unhide R2))
  replace p0 := hide ((unhide p0).next hb)
  replace p2 := hide ((unhide p2).next hb)
  replace p1 := hide ((unhide p1).next hb)
  replace HB := hide (below_two (unhide HB) hb)
  clear hb
  obtain ⟨q_R1_0, q_R1_1⟩ := row2 (unhide R1)
  go_wp2_with fail
  clear q_R1_0 q_R1_1
  go_fit (unhide HP _ _ _ _ (unhide p1))
  rintro r w18 ⟨rfl, hb⟩
  replace RB := hide (row_next hb (unhide RB))
  replace R0 := hide (row_next hb (unhide R0))
  replace R1 := hide (row_next hb (unhide R1))
  replace R2 := hide (row_next hb (unhide R2))
  replace p0 := hide ((unhide p0).next hb)
  replace p2 := hide ((unhide p2).next hb)
  replace p1 := hide ((unhide p1).next hb)
  replace HB := hide (below_two (unhide HB) hb)
  clear hb
  go_wp2_with fail
  go_ret
  exact ⟨rfl, unhide HB⟩
end Go.Proofs.Ytplbamcoobafgaa
