/-
  The exact law of SurfaceNew, from what the program's function answers. (By newlaw.py.)
-/
import Derived.Test.YtmomgbnhildpdaaSurfV
import Derived.Test.YtmomgbnhildpdaaSurfS
import Derived.Deep.RegionHeld3
import Derived.Deep.DeepCutAuto
import Derived.Deep.DeepFit
namespace Go.Proofs.Ytmomgbnhildpdaa
open Go.RowKit
set_option linter.unusedVariables false

theorem newN_le (x y : Int) : newN x y ≤ 1048576 := by
  unfold newN
  split
  · rename_i h
    have h' := newOk_iff.1 h
    have := side_prod h'.1 h'.2
    omega
  · omega

set_option maxHeartbeats 16000000 in
set_option maxRecDepth 100000 in
theorem fnExactSurfaceNew_of (EI : ∀ (x y : Int) (w : World), Calls Try.prog 9 #[.int .i64 x, .int .i64 y] w fun r w' => NewRes w r w' x y)
    (x y : Int) (w : World) :
    Calls Try.prog 4 #[.int .i64 x, .int .i64 y] w fun r w' => r = .returned (.bool true) ∧ Below w.heap.size w w' := by
  have S := hide (specSurfaceNew_any x y)
  have I := hide (EI x y)
  have hN := hide (newN_le x y)
  unfold NewRes at S I
  generalize newN x y = N at S I hN
  generalize newX x y = X at S I
  generalize newY x y = Y at S I
  generalize newOkB x y = ok at S I
  generalize hmf : (fun _ : Nat => clear4) = mf at S I
  clear hmf
  have EXM := hide (fun (u : World) (xx yy : Option Addr) (cx cy base base' : Nat) (h1 : ColsV u base (.slice xx N cx) N mf) (h2 : ColsV u base' (.slice yy N cy) N mf) => eqSurface_same X Y mf xx yy N cx cy (unhide hN) u h1.cols h2.cols)
  have MXM := hide (fun (u : World) (xx : Option Addr) (cx base : Nat) (h1 : ColsV u base (.slice xx N cx) N mf) => markCols_v X Y _ base N 1 mf (by omega) (unhide hN) u h1)
  have HXM := hide (fun (u : World) (xx : Option Addr) (cx base : Nat) (h1 : MarkedCK u base (.slice xx N cx) N 1) => heldCols_v X Y _ base N (unhide hN) u h1)
  have hq2 : ¬ (((1 + N * 4 : Nat) : Int) < 0) := by omega
  generalize ((1 + N * 4 : Nat) : Int) = Q2 at MXM HXM hq2
  have hok : (ok != ok) = false := by simp
  clear EI hN
  have HB := hide (Below.refl w.heap.size w)
  have CUR := hide (Nat.le_refl w.heap.size)
  obtain ⟨c0, hc0⟩ : ∃ b, b = w.heap.size := ⟨_, rfl⟩
  have ORD := hide (show w.heap.size ≤ c0 by omega)
  replace CUR := hide (show c0 ≤ w.heap.size by omega)
  clear hc0
  go_enter Try.func4, Try.ntmps4
  go_wp2_with fail
  go_fit (unhide S _)
  rintro r w1 ⟨a_p0, c_p0, rfl, hp, hb⟩
  have lo0 := CUR
  have lo1 := hide (Below.size hb)
  replace CUR := hide (Nat.le_trans (unhide CUR) (Below.size hb))
  replace HB := hide (below_two (unhide HB) hb)
  clear hb
  obtain ⟨hi_p0, hhi⟩ : ∃ h, h = w1.heap.size := ⟨_, rfl⟩
  replace CUR := hide (show hi_p0 ≤ w1.heap.size by rw [hhi]; exact Nat.le_refl _)
  have B_p0 := hide (show ∀ k, (Value.ownBlock (.slice a_p0 N c_p0)) = some k → w.heap.size ≤ k ∧ k < hi_p0 from fun k hk => by rw [hhi]; exact hp.lt k hk)
  rw [← hhi] at lo1
  clear hhi
  have p0 := hide hp
  clear hp
  generalize w.heap.size = lo_p0 at p0 B_p0 lo0 lo1
  replace ORD := hide (And.intro (unhide ORD) (And.intro (unhide lo0) (unhide lo1)))
  clear lo0 lo1
  go_upto_region 2 with fail
  have lo0 := CUR
  have R0 := hide (new_row w1 (.cells #[.int .i64 X, .int .i64 Y, .slice a_p0 N c_p0] 26))
  have hb := al1_below w1 (.cells #[.int .i64 X, .int .i64 Y, .slice a_p0 N c_p0] 26)
  replace p0 := hide ((unhide p0).next hb)
  replace CUR := hide (Nat.le_trans (unhide CUR) (Below.size hb))
  replace HB := hide (below_two (unhide HB) hb)
  clear hb
  replace CUR := hide (show w1.heap.size + 1 ≤ (w1.alloc (.cells #[.int .i64 X, .int .i64 Y, .slice a_p0 N c_p0] 26)).heap.size by rw [al1_size]; exact Nat.le_refl _)
  generalize w1.alloc (.cells #[.int .i64 X, .int .i64 Y, .slice a_p0 N c_p0] 26) = W2 at *
  generalize w1.heap.size = b_R0 at R0 CUR lo0 ⊢
  replace ORD := hide (And.intro (unhide ORD) (unhide lo0))
  clear lo0
  go_wp2_with fail
  go_fit (unhide I _)
  rintro r w3 ⟨a_plg, c_plg, rfl, hp, hb⟩
  have lo0 := CUR
  have lo1 := hide (Below.size hb)
  replace R0 := hide (row_next hb (unhide R0))
  replace p0 := hide ((unhide p0).next hb)
  replace CUR := hide (Nat.le_trans (unhide CUR) (Below.size hb))
  replace HB := hide (below_two (unhide HB) hb)
  clear hb
  obtain ⟨hi_plg, hhi⟩ : ∃ h, h = w3.heap.size := ⟨_, rfl⟩
  replace CUR := hide (show hi_plg ≤ w3.heap.size by rw [hhi]; exact Nat.le_refl _)
  have B_plg := hide (show ∀ k, (Value.ownBlock (.slice a_plg N c_plg)) = some k → W2.heap.size ≤ k ∧ k < hi_plg from fun k hk => by rw [hhi]; exact hp.lt k hk)
  rw [← hhi] at lo1
  clear hhi
  have plg := hide hp
  clear hp
  generalize W2.heap.size = lo_plg at plg B_plg lo0 lo1
  replace ORD := hide (And.intro (unhide ORD) (And.intro (unhide lo0) (unhide lo1)))
  clear lo0 lo1
  go_upto_region 3 with fail
  have lo0 := CUR
  have R3 := hide (new_row w3 (.cells #[.int .i64 X, .int .i64 Y, .slice a_plg N c_plg] 26))
  have hb := al1_below w3 (.cells #[.int .i64 X, .int .i64 Y, .slice a_plg N c_plg] 26)
  replace R0 := hide (row_next hb (unhide R0))
  replace p0 := hide ((unhide p0).next hb)
  replace plg := hide ((unhide plg).next hb)
  replace CUR := hide (Nat.le_trans (unhide CUR) (Below.size hb))
  replace HB := hide (below_two (unhide HB) hb)
  clear hb
  replace CUR := hide (show w3.heap.size + 1 ≤ (w3.alloc (.cells #[.int .i64 X, .int .i64 Y, .slice a_plg N c_plg] 26)).heap.size by rw [al1_size]; exact Nat.le_refl _)
  generalize w3.alloc (.cells #[.int .i64 X, .int .i64 Y, .slice a_plg N c_plg] 26) = W4 at *
  generalize w3.heap.size = b_R3 at R3 CUR lo0 ⊢
  replace ORD := hide (And.intro (unhide ORD) (unhide lo0))
  clear lo0
  obtain ⟨q_R3_0, q_R3_1, q_R3_2⟩ := row3 (unhide R3)
  obtain ⟨q_R0_0, q_R0_1, q_R0_2⟩ := row3 (unhide R0)
  go_wp2_with fail
  clear q_R3_0 q_R3_1 q_R3_2 q_R0_0 q_R0_1 q_R0_2
  go_fit (unhide EXM _ _ _ _ _ _ _ (unhide plg) (unhide p0))
  rintro r w5 ⟨rfl, hb⟩
  replace R0 := hide (row_next hb (unhide R0))
  replace R3 := hide (row_next hb (unhide R3))
  replace p0 := hide ((unhide p0).next hb)
  replace plg := hide ((unhide plg).next hb)
  replace CUR := hide (Nat.le_trans (unhide CUR) (Below.size hb))
  replace HB := hide (below_two (unhide HB) hb)
  clear hb
  obtain ⟨q_R3_0, q_R3_1, q_R3_2⟩ := row3 (unhide R3)
  go_wp2_with fail
  clear q_R3_0 q_R3_1 q_R3_2
  go_fit (unhide MXM _ _ _ _ (unhide plg))
  rintro r w6 ⟨rfl, hm, hg⟩
  replace R0 := hide ((hg.block b_R0 (heap_lt (unhide R0)) (fun e => by have h := unhide B_plg _ e.symm; have o := unhide ORD; omega)).trans (unhide R0))
  replace R3 := hide ((hg.block b_R3 (heap_lt (unhide R3)) (fun e => by have h := unhide B_plg _ e.symm; have o := unhide ORD; omega)).trans (unhide R3))
  replace p0 := hide ((unhide p0).kept hg (apart_bc (unhide B_p0) (unhide B_plg) (by have o := unhide ORD; omega)))
  replace HB := hide ((unhide HB).grown hg (unhide HB).size (fun k hk => by have h := unhide B_plg _ hk; have o := unhide ORD; omega))
  replace CUR := hide (Nat.le_trans (unhide CUR) hg.size)
  replace plg := hide hm
  clear hm hg
  obtain ⟨q_R3_0, q_R3_1, q_R3_2⟩ := row3 (unhide R3)
  go_wp2_with fail
  clear q_R3_0 q_R3_1 q_R3_2
  go_fit (unhide HXM _ _ _ _ (unhide plg))
  rintro r w7 ⟨rfl, hb⟩
  replace R0 := hide (row_next hb (unhide R0))
  replace R3 := hide (row_next hb (unhide R3))
  replace p0 := hide ((unhide p0).next hb)
  replace plg := hide ((unhide plg).next hb)
  replace CUR := hide (Nat.le_trans (unhide CUR) (Below.size hb))
  replace HB := hide (below_two (unhide HB) hb)
  clear hb
  go_wp2_with fail
  go_fit (unhide I _)
  rintro r w8 ⟨a_p4, c_p4, rfl, hp, hb⟩
  have lo0 := CUR
  have lo1 := hide (Below.size hb)
  replace R0 := hide (row_next hb (unhide R0))
  replace R3 := hide (row_next hb (unhide R3))
  replace p0 := hide ((unhide p0).next hb)
  replace plg := hide ((unhide plg).next hb)
  replace CUR := hide (Nat.le_trans (unhide CUR) (Below.size hb))
  replace HB := hide (below_two (unhide HB) hb)
  clear hb
  obtain ⟨hi_p4, hhi⟩ : ∃ h, h = w8.heap.size := ⟨_, rfl⟩
  replace CUR := hide (show hi_p4 ≤ w8.heap.size by rw [hhi]; exact Nat.le_refl _)
  have B_p4 := hide (show ∀ k, (Value.ownBlock (.slice a_p4 N c_p4)) = some k → w7.heap.size ≤ k ∧ k < hi_p4 from fun k hk => by rw [hhi]; exact hp.lt k hk)
  rw [← hhi] at lo1
  clear hhi
  have p4 := hide hp
  clear hp
  generalize w7.heap.size = lo_p4 at p4 B_p4 lo0 lo1
  replace ORD := hide (And.intro (unhide ORD) (And.intro (unhide lo0) (unhide lo1)))
  clear lo0 lo1
  go_upto_region 14 with fail
  have lo0 := CUR
  have R4 := hide (new_row w8 (.cells #[.int .i64 X, .int .i64 Y, .slice a_p4 N c_p4] 26))
  have hb := al1_below w8 (.cells #[.int .i64 X, .int .i64 Y, .slice a_p4 N c_p4] 26)
  replace R0 := hide (row_next hb (unhide R0))
  replace R3 := hide (row_next hb (unhide R3))
  replace p0 := hide ((unhide p0).next hb)
  replace p4 := hide ((unhide p4).next hb)
  replace plg := hide ((unhide plg).next hb)
  replace CUR := hide (Nat.le_trans (unhide CUR) (Below.size hb))
  replace HB := hide (below_two (unhide HB) hb)
  clear hb
  replace CUR := hide (show w8.heap.size + 1 ≤ (w8.alloc (.cells #[.int .i64 X, .int .i64 Y, .slice a_p4 N c_p4] 26)).heap.size by rw [al1_size]; exact Nat.le_refl _)
  generalize w8.alloc (.cells #[.int .i64 X, .int .i64 Y, .slice a_p4 N c_p4] 26) = W9 at *
  generalize w8.heap.size = b_R4 at R4 CUR lo0 ⊢
  replace ORD := hide (And.intro (unhide ORD) (unhide lo0))
  clear lo0
  obtain ⟨q_R4_0, q_R4_1, q_R4_2⟩ := row3 (unhide R4)
  obtain ⟨q_R0_0, q_R0_1, q_R0_2⟩ := row3 (unhide R0)
  go_wp2_with fail
  clear q_R4_0 q_R4_1 q_R4_2 q_R0_0 q_R0_1 q_R0_2
  go_fit (unhide EXM _ _ _ _ _ _ _ (unhide p4) (unhide p0))
  rintro r w10 ⟨rfl, hb⟩
  replace R0 := hide (row_next hb (unhide R0))
  replace R3 := hide (row_next hb (unhide R3))
  replace R4 := hide (row_next hb (unhide R4))
  replace p0 := hide ((unhide p0).next hb)
  replace p4 := hide ((unhide p4).next hb)
  replace plg := hide ((unhide plg).next hb)
  replace CUR := hide (Nat.le_trans (unhide CUR) (Below.size hb))
  replace HB := hide (below_two (unhide HB) hb)
  clear hb
  obtain ⟨q_R3_0, q_R3_1, q_R3_2⟩ := row3 (unhide R3)
  go_wp2_with fail
  clear q_R3_0 q_R3_1 q_R3_2
  go_fit (unhide HXM _ _ _ _ (unhide plg))
  rintro r w11 ⟨rfl, hb⟩
  replace R0 := hide (row_next hb (unhide R0))
  replace R3 := hide (row_next hb (unhide R3))
  replace R4 := hide (row_next hb (unhide R4))
  replace p0 := hide ((unhide p0).next hb)
  replace p4 := hide ((unhide p4).next hb)
  replace plg := hide ((unhide plg).next hb)
  replace CUR := hide (Nat.le_trans (unhide CUR) (Below.size hb))
  replace HB := hide (below_two (unhide HB) hb)
  clear hb
  go_wp2_with fail
  go_ret
  exact ⟨rfl, unhide HB⟩
end Go.Proofs.Ytmomgbnhildpdaa
