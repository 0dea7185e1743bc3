/-
  The program's curves behind their interface, and the lines that are drawn on.
-/
import Derived.Test.YtkhacppaemilgaaFlatK
import Derived.Test.YtkhacppaemilgaaCurveI
import Derived.Deep.RegionHeld3
import Derived.Deep.DeepCutAuto
import Derived.Deep.DeepFit
namespace Go.Proofs.Ytkhacppaemilgaa
open Go.RowKit
set_option linter.unusedVariables false

theorem ta_quad_quad (v : Value) (w : World) : (Instr.typeAssert (.iface 55 v) 66 55 true).run Try.prog w = .ok (.tuple #[v, .bool true]) w := by kernel_rfl
theorem ta_quad_cubic (v : Value) (w : World) : (Instr.typeAssert (.iface 55 v) 66 59 true).run Try.prog w = .ok (.tuple #[.agg #[.int .i64 0, .int .i64 0, .int .i64 0, .int .i64 0, .int .i64 0, .int .i64 0, .int .i64 0, .int .i64 0], .bool false]) w := by kernel_rfl
theorem ta_quad_closing (v : Value) (w : World) : (Instr.typeAssert (.iface 55 v) 66 81 true).run Try.prog w = .ok (.tuple #[.agg #[.int .i64 0, .int .i64 0, .int .i64 0, .int .i64 0], .bool false]) w := by kernel_rfl
theorem me_quad (f : Nat) (v : Value) (w : World) : (method (f + 1) 55 v "loop.example/g00190/impl.at").run Try.prog w = .ok (28, v) w := by kernel_rfl
theorem ta_cubic_quad (v : Value) (w : World) : (Instr.typeAssert (.iface 59 v) 66 55 true).run Try.prog w = .ok (.tuple #[.agg #[.int .i64 0, .int .i64 0, .int .i64 0, .int .i64 0, .int .i64 0, .int .i64 0], .bool false]) w := by kernel_rfl
theorem ta_cubic_cubic (v : Value) (w : World) : (Instr.typeAssert (.iface 59 v) 66 59 true).run Try.prog w = .ok (.tuple #[v, .bool true]) w := by kernel_rfl
theorem ta_cubic_closing (v : Value) (w : World) : (Instr.typeAssert (.iface 59 v) 66 81 true).run Try.prog w = .ok (.tuple #[.agg #[.int .i64 0, .int .i64 0, .int .i64 0, .int .i64 0], .bool false]) w := by kernel_rfl
theorem me_cubic (f : Nat) (v : Value) (w : World) : (method (f + 1) 59 v "loop.example/g00190/impl.at").run Try.prog w = .ok (30, v) w := by kernel_rfl
theorem ta_closing_quad (v : Value) (w : World) : (Instr.typeAssert (.iface 81 v) 66 55 true).run Try.prog w = .ok (.tuple #[.agg #[.int .i64 0, .int .i64 0, .int .i64 0, .int .i64 0, .int .i64 0, .int .i64 0], .bool false]) w := by kernel_rfl
theorem ta_closing_cubic (v : Value) (w : World) : (Instr.typeAssert (.iface 81 v) 66 59 true).run Try.prog w = .ok (.tuple #[.agg #[.int .i64 0, .int .i64 0, .int .i64 0, .int .i64 0, .int .i64 0, .int .i64 0, .int .i64 0, .int .i64 0], .bool false]) w := by kernel_rfl
theorem ta_closing_closing (v : Value) (w : World) : (Instr.typeAssert (.iface 81 v) 66 81 true).run Try.prog w = .ok (.tuple #[v, .bool true]) w := by kernel_rfl
theorem me_closing (f : Nat) (v : Value) (w : World) : (method (f + 1) 81 v "loop.example/g00190/impl.at").run Try.prog w = .ok (78, v) w := by kernel_rfl
theorem ta_straight_quad (v : Value) (w : World) : (Instr.typeAssert (.iface 83 v) 66 55 true).run Try.prog w = .ok (.tuple #[.agg #[.int .i64 0, .int .i64 0, .int .i64 0, .int .i64 0, .int .i64 0, .int .i64 0], .bool false]) w := by kernel_rfl
theorem ta_straight_cubic (v : Value) (w : World) : (Instr.typeAssert (.iface 83 v) 66 59 true).run Try.prog w = .ok (.tuple #[.agg #[.int .i64 0, .int .i64 0, .int .i64 0, .int .i64 0, .int .i64 0, .int .i64 0, .int .i64 0, .int .i64 0], .bool false]) w := by kernel_rfl
theorem ta_straight_closing (v : Value) (w : World) : (Instr.typeAssert (.iface 83 v) 66 81 true).run Try.prog w = .ok (.tuple #[.agg #[.int .i64 0, .int .i64 0, .int .i64 0, .int .i64 0], .bool false]) w := by kernel_rfl
theorem me_straight (f : Nat) (v : Value) (w : World) : (method (f + 1) 83 v "loop.example/g00190/impl.at").run Try.prog w = .ok (79, v) w := by kernel_rfl

attribute [local go_sem ↓] ta_quad_quad ta_quad_cubic ta_quad_closing me_quad ta_cubic_quad ta_cubic_cubic ta_cubic_closing me_cubic ta_closing_quad ta_closing_cubic ta_closing_closing me_closing ta_straight_quad ta_straight_cubic ta_straight_closing me_straight eqlPoint in
set_option maxHeartbeats 4000000 in
set_option maxRecDepth 100000 in
theorem steps_quad (x0 y0 x1 y1 x2 y2 : Int) (w : World) :
    Calls Try.prog 55 #[.iface 55 (.agg #[.int .i64 x0, .int .i64 y0, .int .i64 x1, .int .i64 y1, .int .i64 x2, .int .i64 y2])] w fun r w' => r = .returned (.int .i64 4) ∧ Below w.heap.size w w' := by
  go_enter Try.func55, Try.ntmps55
  go_wp2_with fail
  go_ret
  exact ⟨rfl, al1_below _ _⟩

attribute [local go_sem ↓] ta_quad_quad ta_quad_cubic ta_quad_closing me_quad ta_cubic_quad ta_cubic_cubic ta_cubic_closing me_cubic ta_closing_quad ta_closing_cubic ta_closing_closing me_closing ta_straight_quad ta_straight_cubic ta_straight_closing me_straight eqlPoint in
set_option maxHeartbeats 4000000 in
set_option maxRecDepth 100000 in
theorem steps_cubic (x0 y0 x1 y1 x2 y2 x3 y3 : Int) (w : World) :
    Calls Try.prog 55 #[.iface 59 (.agg #[.int .i64 x0, .int .i64 y0, .int .i64 x1, .int .i64 y1, .int .i64 x2, .int .i64 y2, .int .i64 x3, .int .i64 y3])] w fun r w' => r = .returned (.int .i64 8) ∧ Below w.heap.size w w' := by
  go_enter Try.func55, Try.ntmps55
  go_wp2_with fail
  go_ret
  exact ⟨rfl, al1_below _ _⟩

attribute [local go_sem ↓] ta_quad_quad ta_quad_cubic ta_quad_closing me_quad ta_cubic_quad ta_cubic_cubic ta_cubic_closing me_cubic ta_closing_quad ta_closing_cubic ta_closing_closing me_closing ta_straight_quad ta_straight_cubic ta_straight_closing me_straight eqlPoint in
set_option maxHeartbeats 4000000 in
set_option maxRecDepth 100000 in
theorem steps_closing (x0 y0 x1 y1 : Int) (w : World) :
    Calls Try.prog 55 #[.iface 81 (.agg #[.int .i64 x0, .int .i64 y0, .int .i64 x1, .int .i64 y1])] w fun r w' => r = .returned (.int .i64 (if x0 = x1 ∧ y0 = y1 then 0 else 1)) ∧ Below w.heap.size w w' := by
  by_cases h : x0 = x1 ∧ y0 = y1
  · rw [if_pos h]
    obtain ⟨rfl, rfl⟩ := h
    go_enter Try.func55, Try.ntmps55
    go_wp2_with fail
    go_ret
    exact ⟨rfl, al1_below _ _⟩
  · rw [if_neg h]
    have hd : (decide (x0 = x1) && decide (y0 = y1)) = false := by simpa using h
    replace h := hide h
    go_enter Try.func55, Try.ntmps55
    go_wp2_with fail
    go_ret
    exact ⟨rfl, al1_below _ _⟩

attribute [local go_sem ↓] ta_quad_quad ta_quad_cubic ta_quad_closing me_quad ta_cubic_quad ta_cubic_cubic ta_cubic_closing me_cubic ta_closing_quad ta_closing_cubic ta_closing_closing me_closing ta_straight_quad ta_straight_cubic ta_straight_closing me_straight eqlPoint in
set_option maxHeartbeats 4000000 in
set_option maxRecDepth 100000 in
theorem steps_straight (x0 y0 : Int) (w : World) :
    Calls Try.prog 55 #[.iface 83 (.agg #[.int .i64 x0, .int .i64 y0])] w fun r w' => r = .returned (.int .i64 1) ∧ Below w.heap.size w w' := by
  go_enter Try.func55, Try.ntmps55
  go_wp2_with fail
  go_ret
  exact ⟨rfl, Below.refl _ _⟩

set_option maxHeartbeats 4000000 in
set_option maxRecDepth 100000 in
theorem at_closing (x0 y0 x1 y1 i : Int) (w : World) :
    Calls Try.prog 78 #[.agg #[.int .i64 x0, .int .i64 y0, .int .i64 x1, .int .i64 y1], .int .i64 i] w fun r w' => r = .returned (.agg #[.int .i64 x1, .int .i64 y1]) ∧ Below w.heap.size w w' := by
  go_enter Try.func78, Try.ntmps78
  go_wp2_with fail
  obtain ⟨r0, r1⟩ := row2 (al2_1 w (.cells #[.int .i64 x0, .int .i64 y0, .int .i64 x1, .int .i64 y1] 81) (.cells #[.int .i64 x1, .int .i64 y1] 27))
  refine bodyPost_ret (v := .agg #[.int .i64 x1, .int .i64 y1]) (by simp [results, Try.results78, go_sem, r0, r1]) rfl ⟨rfl, al2_below _ _ _⟩

set_option maxHeartbeats 4000000 in
set_option maxRecDepth 100000 in
theorem at_straight (x0 y0 i : Int) (w : World) :
    Calls Try.prog 79 #[.agg #[.int .i64 x0, .int .i64 y0], .int .i64 i] w fun r w' => r = .returned (.agg #[.int .i64 x0, .int .i64 y0]) ∧ Below w.heap.size w w' := by
  go_enter Try.func79, Try.ntmps79
  go_wp2_with fail
  obtain ⟨r0, r1⟩ := row2 (al2_1 w (.cells #[.int .i64 x0, .int .i64 y0] 83) (.cells #[.int .i64 x0, .int .i64 y0] 27))
  refine bodyPost_ret (v := .agg #[.int .i64 x0, .int .i64 y0]) (by simp [results, Try.results79, go_sem, r0, r1]) rfl ⟨rfl, al2_below _ _ _⟩

theorem range_more {α : Type} (l : List α) (f : Nat → α) (k : Nat) : l ++ (List.range (k + 1)).map f = (l ++ (List.range k).map f) ++ [f k] := by
  rw [List.range_succ, List.map_append, List.append_assoc]; rfl

attribute [local go_sem ↓] ta_quad_quad ta_quad_cubic ta_quad_closing me_quad ta_cubic_quad ta_cubic_cubic ta_cubic_closing me_cubic ta_closing_quad ta_closing_cubic ta_closing_closing me_closing ta_straight_quad ta_straight_cubic ta_straight_closing me_straight eqlPoint in
set_option maxHeartbeats 4000000 in
set_option maxRecDepth 100000 in
theorem drawn_quad (x0 y0 x1 y1 x2 y2 : Int) (hok : ∀ p ∈ [(x0, y0), (x1, y1), (x2, y2)], pointOkB p.1 p.2 = true) (base : Nat) (v : Value) (l : List Pt) (hl : l.length ≤ 1000) (w : World) (hb : base ≤ w.heap.size) (ho : w.ownsRow base 27 2 v l.length (ptsV l)) :
    Calls Try.prog 37 #[v, .iface 55 (.agg #[.int .i64 x0, .int .i64 y0, .int .i64 x1, .int .i64 y1, .int .i64 x2, .int .i64 y2])] w fun r w' => ∃ v', r = .returned v' ∧ w'.ownsRow base 27 2 v' (l ++ (List.range 4).map (fun k : Nat => quadP (x0, y0) (x1, y1) (x2, y2) ((k : Int) + 1))).length (ptsV (l ++ (List.range 4).map (fun k : Nat => quadP (x0, y0) (x1, y1) (x2, y2) ((k : Int) + 1)))) ∧ Below base w w' ∧ KeepT w w' := by
  obtain ⟨i2, hi2, hz2, hs2, hb2⟩ := info_parts infoPoint
  have HS := hide (fun u => steps_quad x0 y0 x1 y1 x2 y2 u)
  have h0 := hok (x0, y0) (by simp)
  have h1 := hok (x1, y1) (by simp)
  have h2 := hok (x2, y2) (by simp)
  have HA : Hid (∀ (k : Nat), k < 4 → ∀ u, Calls Try.prog 28 #[.agg #[.int .i64 x0, .int .i64 y0, .int .i64 x1, .int .i64 y1, .int .i64 x2, .int .i64 y2], .int .i64 ((k : Int) + 1)] u fun r w' => r = .returned (.agg #[.int .i64 ((fun k : Nat => quadP (x0, y0) (x1, y1) (x2, y2) ((k : Int) + 1)) k).1, .int .i64 ((fun k : Nat => quadP (x0, y0) (x1, y1) (x2, y2) ((k : Int) + 1)) k).2]) ∧ Below u.heap.size u w') := fun k hk u => by
    have e := (quad_right h0 h1 h2 ((k : Int) + 1) (by omega)).1
    dsimp only
    rw [e]
    exact implQuadM_any x0 y0 x1 y1 x2 y2 (by simp only [quadOk, Bool.and_eq_true]; exact ⟨h0, h1, h2⟩) _ (by omega) u
  generalize hf : (fun k : Nat => quadP (x0, y0) (x1, y1) (x2, y2) ((k : Int) + 1)) = f at HA ⊢
  clear hf
  obtain ⟨av, cv, rfl⟩ := own_form ho
  replace ho := hide ho
  go_enter Try.func37, Try.ntmps37
  go_wp2_with fail
  go_loopw [0, 5] (fun v i u => ∃ k : Nat, k ≤ 4 ∧ i = .int .i64 ((k : Int) + 1) ∧ Hid (u.ownsRow base 27 2 v (l ++ (List.range k).map f).length (ptsV (l ++ (List.range k).map f))) ∧ Hid (Below base w u) ∧ Hid (KeepT w u)) (fun _ i _ => 4 + 1 - (intOf i).toNat)
  case atStart => exact ⟨0, by omega, rfl, by simpa using ho, Below.refl _ _, KeepT.refl _⟩
  case round =>
    obtain ⟨k, hk, rfl, o1, b1, t1⟩ := hrel
    by_cases hlt : k < 4
    · have hlt' : (k : Int) + 1 ≤ 4 := by omega
      have d1 : decide ((k : Int) + 1 ≤ 4) = true := decide_eq_true hlt'
      have HK := hide (unhide HA k hlt)
      obtain ⟨L, hL⟩ : ∃ L, Hid (L = l ++ (List.range k).map f) := ⟨_, rfl⟩
      rw [← unhide hL] at o1
      have hLn : L.length ≤ 1010 := by rw [unhide hL]; simp; omega
      have hM : Hid (l ++ (List.range (k + 1)).map f = L ++ [f k]) := by unfold Hid; rw [range_more, unhide hL]
      generalize f k = p at HK hM
      obtain ⟨px, py⟩ := p
      obtain ⟨av, cv, rfl⟩ := own_form (unhide o1)
      go_wp2_with fail
      go_fit (unhide HS _)
      rintro r w1 ⟨rfl, hb1⟩
      replace o1 := hide (own_below (unhide o1) hb1)
      replace t1 := hide ((unhide t1).trans (KeepT.of_below hb1))
      replace b1 := hide (below_after hb1 (unhide b1) hb)
      clear hb1
      go_wp2_with fail
      go_fit (unhide HK _)
      rintro r w2 ⟨rfl, hb1⟩
      replace o1 := hide (own_below (unhide o1) hb1)
      replace t1 := hide ((unhide t1).trans (KeepT.of_below hb1))
      replace b1 := hide (below_after hb1 (unhide b1) hb)
      clear hb1
      go_wp2_with (at_builtin; go_must (refine wpList_append_pk w2 rfl _ _ 24 rfl base i2 (.agg #[.int .i64 0, .int .i64 0]) 16 Try.underlying24 hi2 hz2 hs2 hb2 rfl _ L (by rfl) (unhide o1) px py 1 (by rfl) (by unfold maxLen; omega) (by omega) (Nat.le_trans hb (unhide b1).size) ?_); intro v1 w3 ho3 hb3 ht3; have O3 := hide ho3; have B3 := hide hb3; have T3 := hide ht3; clear ho3 hb3 ht3)
      go_roundw
      case rel => exact ⟨k + 1, by omega, by go_num, by rw [unhide hM]; exact O3, (unhide b1).trans (unhide B3), (unhide t1).trans (unhide T3)⟩
      case measure => simp [intOf]; omega
    · have hke : k = 4 := by omega
      subst hke
      have d1 : decide ((((4 : Nat) : Int)) + 1 ≤ 4) = false := by decide
      obtain ⟨L, hL⟩ : ∃ L, Hid (L = l ++ (List.range 4).map f) := ⟨_, rfl⟩
      rw [← unhide hL] at o1
      obtain ⟨av, cv, ev⟩ := own_form (unhide o1)
      subst ev
      go_wp2_with fail
      go_fit (unhide HS _)
      rintro r w1 ⟨rfl, hb1⟩
      replace o1 := hide (own_below (unhide o1) hb1)
      replace t1 := hide ((unhide t1).trans (KeepT.of_below hb1))
      replace b1 := hide (below_after hb1 (unhide b1) hb)
      clear hb1
      go_wp2_with fail
      go_ret
      exact ⟨_, rfl, by rw [← unhide hL]; exact unhide o1, unhide b1, unhide t1⟩

attribute [local go_sem ↓] ta_quad_quad ta_quad_cubic ta_quad_closing me_quad ta_cubic_quad ta_cubic_cubic ta_cubic_closing me_cubic ta_closing_quad ta_closing_cubic ta_closing_closing me_closing ta_straight_quad ta_straight_cubic ta_straight_closing me_straight eqlPoint in
set_option maxHeartbeats 4000000 in
set_option maxRecDepth 100000 in
theorem drawn_cubic (x0 y0 x1 y1 x2 y2 x3 y3 : Int) (hok : ∀ p ∈ [(x0, y0), (x1, y1), (x2, y2), (x3, y3)], pointOkB p.1 p.2 = true) (base : Nat) (v : Value) (l : List Pt) (hl : l.length ≤ 1000) (w : World) (hb : base ≤ w.heap.size) (ho : w.ownsRow base 27 2 v l.length (ptsV l)) :
    Calls Try.prog 37 #[v, .iface 59 (.agg #[.int .i64 x0, .int .i64 y0, .int .i64 x1, .int .i64 y1, .int .i64 x2, .int .i64 y2, .int .i64 x3, .int .i64 y3])] w fun r w' => ∃ v', r = .returned v' ∧ w'.ownsRow base 27 2 v' (l ++ (List.range 8).map (fun k : Nat => cubicP (x0, y0) (x1, y1) (x2, y2) (x3, y3) ((k : Int) + 1))).length (ptsV (l ++ (List.range 8).map (fun k : Nat => cubicP (x0, y0) (x1, y1) (x2, y2) (x3, y3) ((k : Int) + 1)))) ∧ Below base w w' ∧ KeepT w w' := by
  obtain ⟨i2, hi2, hz2, hs2, hb2⟩ := info_parts infoPoint
  have HS := hide (fun u => steps_cubic x0 y0 x1 y1 x2 y2 x3 y3 u)
  have h0 := hok (x0, y0) (by simp)
  have h1 := hok (x1, y1) (by simp)
  have h2 := hok (x2, y2) (by simp)
  have h3 := hok (x3, y3) (by simp)
  have HA : Hid (∀ (k : Nat), k < 8 → ∀ u, Calls Try.prog 30 #[.agg #[.int .i64 x0, .int .i64 y0, .int .i64 x1, .int .i64 y1, .int .i64 x2, .int .i64 y2, .int .i64 x3, .int .i64 y3], .int .i64 ((k : Int) + 1)] u fun r w' => r = .returned (.agg #[.int .i64 ((fun k : Nat => cubicP (x0, y0) (x1, y1) (x2, y2) (x3, y3) ((k : Int) + 1)) k).1, .int .i64 ((fun k : Nat => cubicP (x0, y0) (x1, y1) (x2, y2) (x3, y3) ((k : Int) + 1)) k).2]) ∧ Below u.heap.size u w') := fun k hk u => by
    have e := (cubic_right h0 h1 h2 h3 ((k : Int) + 1) (by omega)).1
    dsimp only
    rw [e]
    exact implCubicM_any x0 y0 x1 y1 x2 y2 x3 y3 (by simp only [cubicOk, Bool.and_eq_true]; exact ⟨h0, h1, h2, h3⟩) _ (by omega) u
  generalize hf : (fun k : Nat => cubicP (x0, y0) (x1, y1) (x2, y2) (x3, y3) ((k : Int) + 1)) = f at HA ⊢
  clear hf
  obtain ⟨av, cv, rfl⟩ := own_form ho
  replace ho := hide ho
  go_enter Try.func37, Try.ntmps37
  go_wp2_with fail
  go_loopw [0, 5] (fun v i u => ∃ k : Nat, k ≤ 8 ∧ i = .int .i64 ((k : Int) + 1) ∧ Hid (u.ownsRow base 27 2 v (l ++ (List.range k).map f).length (ptsV (l ++ (List.range k).map f))) ∧ Hid (Below base w u) ∧ Hid (KeepT w u)) (fun _ i _ => 8 + 1 - (intOf i).toNat)
  case atStart => exact ⟨0, by omega, rfl, by simpa using ho, Below.refl _ _, KeepT.refl _⟩
  case round =>
    obtain ⟨k, hk, rfl, o1, b1, t1⟩ := hrel
    by_cases hlt : k < 8
    · have hlt' : (k : Int) + 1 ≤ 8 := by omega
      have d1 : decide ((k : Int) + 1 ≤ 8) = true := decide_eq_true hlt'
      have HK := hide (unhide HA k hlt)
      obtain ⟨L, hL⟩ : ∃ L, Hid (L = l ++ (List.range k).map f) := ⟨_, rfl⟩
      rw [← unhide hL] at o1
      have hLn : L.length ≤ 1010 := by rw [unhide hL]; simp; omega
      have hM : Hid (l ++ (List.range (k + 1)).map f = L ++ [f k]) := by unfold Hid; rw [range_more, unhide hL]
      generalize f k = p at HK hM
      obtain ⟨px, py⟩ := p
      obtain ⟨av, cv, rfl⟩ := own_form (unhide o1)
      go_wp2_with fail
      go_fit (unhide HS _)
      rintro r w1 ⟨rfl, hb1⟩
      replace o1 := hide (own_below (unhide o1) hb1)
      replace t1 := hide ((unhide t1).trans (KeepT.of_below hb1))
      replace b1 := hide (below_after hb1 (unhide b1) hb)
      clear hb1
      go_wp2_with fail
      go_fit (unhide HK _)
      rintro r w2 ⟨rfl, hb1⟩
      replace o1 := hide (own_below (unhide o1) hb1)
      replace t1 := hide ((unhide t1).trans (KeepT.of_below hb1))
      replace b1 := hide (below_after hb1 (unhide b1) hb)
      clear hb1
      go_wp2_with (at_builtin; go_must (refine wpList_append_pk w2 rfl _ _ 24 rfl base i2 (.agg #[.int .i64 0, .int .i64 0]) 16 Try.underlying24 hi2 hz2 hs2 hb2 rfl _ L (by rfl) (unhide o1) px py 1 (by rfl) (by unfold maxLen; omega) (by omega) (Nat.le_trans hb (unhide b1).size) ?_); intro v1 w3 ho3 hb3 ht3; have O3 := hide ho3; have B3 := hide hb3; have T3 := hide ht3; clear ho3 hb3 ht3)
      go_roundw
      case rel => exact ⟨k + 1, by omega, by go_num, by rw [unhide hM]; exact O3, (unhide b1).trans (unhide B3), (unhide t1).trans (unhide T3)⟩
      case measure => simp [intOf]; omega
    · have hke : k = 8 := by omega
      subst hke
      have d1 : decide ((((8 : Nat) : Int)) + 1 ≤ 8) = false := by decide
      obtain ⟨L, hL⟩ : ∃ L, Hid (L = l ++ (List.range 8).map f) := ⟨_, rfl⟩
      rw [← unhide hL] at o1
      obtain ⟨av, cv, ev⟩ := own_form (unhide o1)
      subst ev
      go_wp2_with fail
      go_fit (unhide HS _)
      rintro r w1 ⟨rfl, hb1⟩
      replace o1 := hide (own_below (unhide o1) hb1)
      replace t1 := hide ((unhide t1).trans (KeepT.of_below hb1))
      replace b1 := hide (below_after hb1 (unhide b1) hb)
      clear hb1
      go_wp2_with fail
      go_ret
      exact ⟨_, rfl, by rw [← unhide hL]; exact unhide o1, unhide b1, unhide t1⟩

attribute [local go_sem ↓] ta_quad_quad ta_quad_cubic ta_quad_closing me_quad ta_cubic_quad ta_cubic_cubic ta_cubic_closing me_cubic ta_closing_quad ta_closing_cubic ta_closing_closing me_closing ta_straight_quad ta_straight_cubic ta_straight_closing me_straight eqlPoint in
set_option maxHeartbeats 4000000 in
set_option maxRecDepth 100000 in
theorem drawn_closing (x0 y0 x1 y1 : Int) (hne : ¬ (x0 = x1 ∧ y0 = y1)) (base : Nat) (v : Value) (l : List Pt) (hl : l.length ≤ 1000) (w : World) (hb : base ≤ w.heap.size) (ho : w.ownsRow base 27 2 v l.length (ptsV l)) :
    Calls Try.prog 37 #[v, .iface 81 (.agg #[.int .i64 x0, .int .i64 y0, .int .i64 x1, .int .i64 y1])] w fun r w' => ∃ v', r = .returned v' ∧ w'.ownsRow base 27 2 v' (l ++ (List.range 1).map (fun _ : Nat => (x1, y1))).length (ptsV (l ++ (List.range 1).map (fun _ : Nat => (x1, y1)))) ∧ Below base w w' ∧ KeepT w w' := by
  obtain ⟨i2, hi2, hz2, hs2, hb2⟩ := info_parts infoPoint
  have HS := hide (fun u => steps_closing x0 y0 x1 y1 u)
  rw [if_neg hne] at HS
  have HA : Hid (∀ (k : Nat), k < 1 → ∀ u, Calls Try.prog 78 #[.agg #[.int .i64 x0, .int .i64 y0, .int .i64 x1, .int .i64 y1], .int .i64 ((k : Int) + 1)] u fun r w' => r = .returned (.agg #[.int .i64 ((fun _ : Nat => (x1, y1)) k).1, .int .i64 ((fun _ : Nat => (x1, y1)) k).2]) ∧ Below u.heap.size u w') := fun k hk u => at_closing x0 y0 x1 y1 _ u
  generalize hf : (fun _ : Nat => (x1, y1)) = f at HA ⊢
  clear hf
  obtain ⟨av, cv, rfl⟩ := own_form ho
  replace ho := hide ho
  go_enter Try.func37, Try.ntmps37
  go_wp2_with fail
  go_loopw [0, 5] (fun v i u => ∃ k : Nat, k ≤ 1 ∧ i = .int .i64 ((k : Int) + 1) ∧ Hid (u.ownsRow base 27 2 v (l ++ (List.range k).map f).length (ptsV (l ++ (List.range k).map f))) ∧ Hid (Below base w u) ∧ Hid (KeepT w u)) (fun _ i _ => 1 + 1 - (intOf i).toNat)
  case atStart => exact ⟨0, by omega, rfl, by simpa using ho, Below.refl _ _, KeepT.refl _⟩
  case round =>
    obtain ⟨k, hk, rfl, o1, b1, t1⟩ := hrel
    by_cases hlt : k < 1
    · have hlt' : (k : Int) + 1 ≤ 1 := by omega
      have d1 : decide ((k : Int) + 1 ≤ 1) = true := decide_eq_true hlt'
      have HK := hide (unhide HA k hlt)
      obtain ⟨L, hL⟩ : ∃ L, Hid (L = l ++ (List.range k).map f) := ⟨_, rfl⟩
      rw [← unhide hL] at o1
      have hLn : L.length ≤ 1010 := by rw [unhide hL]; simp; omega
      have hM : Hid (l ++ (List.range (k + 1)).map f = L ++ [f k]) := by unfold Hid; rw [range_more, unhide hL]
      generalize f k = p at HK hM
      obtain ⟨px, py⟩ := p
      obtain ⟨av, cv, rfl⟩ := own_form (unhide o1)
      go_wp2_with fail
      go_fit (unhide HS _)
      rintro r w1 ⟨rfl, hb1⟩
      replace o1 := hide (own_below (unhide o1) hb1)
      replace t1 := hide ((unhide t1).trans (KeepT.of_below hb1))
      replace b1 := hide (below_after hb1 (unhide b1) hb)
      clear hb1
      go_wp2_with fail
      go_fit (unhide HK _)
      rintro r w2 ⟨rfl, hb1⟩
      replace o1 := hide (own_below (unhide o1) hb1)
      replace t1 := hide ((unhide t1).trans (KeepT.of_below hb1))
      replace b1 := hide (below_after hb1 (unhide b1) hb)
      clear hb1
      go_wp2_with (at_builtin; go_must (refine wpList_append_pk w2 rfl _ _ 24 rfl base i2 (.agg #[.int .i64 0, .int .i64 0]) 16 Try.underlying24 hi2 hz2 hs2 hb2 rfl _ L (by rfl) (unhide o1) px py 1 (by rfl) (by unfold maxLen; omega) (by omega) (Nat.le_trans hb (unhide b1).size) ?_); intro v1 w3 ho3 hb3 ht3; have O3 := hide ho3; have B3 := hide hb3; have T3 := hide ht3; clear ho3 hb3 ht3)
      go_roundw
      case rel => exact ⟨k + 1, by omega, by go_num, by rw [unhide hM]; exact O3, (unhide b1).trans (unhide B3), (unhide t1).trans (unhide T3)⟩
      case measure => simp [intOf]; omega
    · have hke : k = 1 := by omega
      subst hke
      have d1 : decide ((((1 : Nat) : Int)) + 1 ≤ 1) = false := by decide
      obtain ⟨L, hL⟩ : ∃ L, Hid (L = l ++ (List.range 1).map f) := ⟨_, rfl⟩
      rw [← unhide hL] at o1
      obtain ⟨av, cv, ev⟩ := own_form (unhide o1)
      subst ev
      go_wp2_with fail
      go_fit (unhide HS _)
      rintro r w1 ⟨rfl, hb1⟩
      replace o1 := hide (own_below (unhide o1) hb1)
      replace t1 := hide ((unhide t1).trans (KeepT.of_below hb1))
      replace b1 := hide (below_after hb1 (unhide b1) hb)
      clear hb1
      go_wp2_with fail
      go_ret
      exact ⟨_, rfl, by rw [← unhide hL]; exact unhide o1, unhide b1, unhide t1⟩

attribute [local go_sem ↓] ta_quad_quad ta_quad_cubic ta_quad_closing me_quad ta_cubic_quad ta_cubic_cubic ta_cubic_closing me_cubic ta_closing_quad ta_closing_cubic ta_closing_closing me_closing ta_straight_quad ta_straight_cubic ta_straight_closing me_straight eqlPoint in
set_option maxHeartbeats 4000000 in
set_option maxRecDepth 100000 in
theorem drawn_closed (x0 y0 : Int) (v : Value) (w : World) (av : Option Addr) (n cv : Nat) (hv : v = .slice av n cv) :
    Calls Try.prog 37 #[v, .iface 81 (.agg #[.int .i64 x0, .int .i64 y0, .int .i64 x0, .int .i64 y0])] w fun r w' => r = .returned v ∧ Below w.heap.size w w' := by
  subst hv
  have HS := hide (fun u => steps_closing x0 y0 x0 y0 u)
  rw [if_pos ⟨rfl, rfl⟩] at HS
  go_enter Try.func37, Try.ntmps37
  go_wp2_with fail
  go_loopw [0, 5] (fun v i u => i = .int .i64 1 ∧ v = .slice av n cv ∧ u = w) (fun _ i _ => 0)
  case atStart => exact ⟨rfl, rfl, rfl⟩
  case round =>
    obtain ⟨rfl, rfl, rfl⟩ := hrel
    go_wp2_with fail
    go_fit (unhide HS _)
    rintro r w1 ⟨rfl, hb1⟩
    replace hb1 := hide hb1
    go_wp2_with fail
    go_ret
    exact ⟨rfl, unhide hb1⟩

attribute [local go_sem ↓] ta_quad_quad ta_quad_cubic ta_quad_closing me_quad ta_cubic_quad ta_cubic_cubic ta_cubic_closing me_cubic ta_closing_quad ta_closing_cubic ta_closing_closing me_closing ta_straight_quad ta_straight_cubic ta_straight_closing me_straight eqlPoint in
set_option maxHeartbeats 4000000 in
set_option maxRecDepth 100000 in
theorem drawn_straight (x0 y0 : Int) (base : Nat) (v : Value) (l : List Pt) (hl : l.length ≤ 1000) (w : World) (hb : base ≤ w.heap.size) (ho : w.ownsRow base 27 2 v l.length (ptsV l)) :
    Calls Try.prog 37 #[v, .iface 83 (.agg #[.int .i64 x0, .int .i64 y0])] w fun r w' => ∃ v', r = .returned v' ∧ w'.ownsRow base 27 2 v' (l ++ (List.range 1).map (fun _ : Nat => (x0, y0))).length (ptsV (l ++ (List.range 1).map (fun _ : Nat => (x0, y0)))) ∧ Below base w w' ∧ KeepT w w' := by
  obtain ⟨i2, hi2, hz2, hs2, hb2⟩ := info_parts infoPoint
  have HS := hide (fun u => steps_straight x0 y0 u)
  have HA : Hid (∀ (k : Nat), k < 1 → ∀ u, Calls Try.prog 79 #[.agg #[.int .i64 x0, .int .i64 y0], .int .i64 ((k : Int) + 1)] u fun r w' => r = .returned (.agg #[.int .i64 ((fun _ : Nat => (x0, y0)) k).1, .int .i64 ((fun _ : Nat => (x0, y0)) k).2]) ∧ Below u.heap.size u w') := fun k hk u => at_straight x0 y0 _ u
  generalize hf : (fun _ : Nat => (x0, y0)) = f at HA ⊢
  clear hf
  obtain ⟨av, cv, rfl⟩ := own_form ho
  replace ho := hide ho
  go_enter Try.func37, Try.ntmps37
  go_wp2_with fail
  go_loopw [0, 5] (fun v i u => ∃ k : Nat, k ≤ 1 ∧ i = .int .i64 ((k : Int) + 1) ∧ Hid (u.ownsRow base 27 2 v (l ++ (List.range k).map f).length (ptsV (l ++ (List.range k).map f))) ∧ Hid (Below base w u) ∧ Hid (KeepT w u)) (fun _ i _ => 1 + 1 - (intOf i).toNat)
  case atStart => exact ⟨0, by omega, rfl, by simpa using ho, Below.refl _ _, KeepT.refl _⟩
  case round =>
    obtain ⟨k, hk, rfl, o1, b1, t1⟩ := hrel
    by_cases hlt : k < 1
    · have hlt' : (k : Int) + 1 ≤ 1 := by omega
      have d1 : decide ((k : Int) + 1 ≤ 1) = true := decide_eq_true hlt'
      have HK := hide (unhide HA k hlt)
      obtain ⟨L, hL⟩ : ∃ L, Hid (L = l ++ (List.range k).map f) := ⟨_, rfl⟩
      rw [← unhide hL] at o1
      have hLn : L.length ≤ 1010 := by rw [unhide hL]; simp; omega
      have hM : Hid (l ++ (List.range (k + 1)).map f = L ++ [f k]) := by unfold Hid; rw [range_more, unhide hL]
      generalize f k = p at HK hM
      obtain ⟨px, py⟩ := p
      obtain ⟨av, cv, rfl⟩ := own_form (unhide o1)
      go_wp2_with fail
      go_fit (unhide HS _)
      rintro r w1 ⟨rfl, hb1⟩
      replace o1 := hide (own_below (unhide o1) hb1)
      replace t1 := hide ((unhide t1).trans (KeepT.of_below hb1))
      replace b1 := hide (below_after hb1 (unhide b1) hb)
      clear hb1
      go_wp2_with fail
      go_fit (unhide HK _)
      rintro r w2 ⟨rfl, hb1⟩
      replace o1 := hide (own_below (unhide o1) hb1)
      replace t1 := hide ((unhide t1).trans (KeepT.of_below hb1))
      replace b1 := hide (below_after hb1 (unhide b1) hb)
      clear hb1
      go_wp2_with (at_builtin; go_must (refine wpList_append_pk w2 rfl _ _ 24 rfl base i2 (.agg #[.int .i64 0, .int .i64 0]) 16 Try.underlying24 hi2 hz2 hs2 hb2 rfl _ L (by rfl) (unhide o1) px py 1 (by rfl) (by unfold maxLen; omega) (by omega) (Nat.le_trans hb (unhide b1).size) ?_); intro v1 w3 ho3 hb3 ht3; have O3 := hide ho3; have B3 := hide hb3; have T3 := hide ht3; clear ho3 hb3 ht3)
      go_roundw
      case rel => exact ⟨k + 1, by omega, by go_num, by rw [unhide hM]; exact O3, (unhide b1).trans (unhide B3), (unhide t1).trans (unhide T3)⟩
      case measure => simp [intOf]; omega
    · have hke : k = 1 := by omega
      subst hke
      have d1 : decide ((((1 : Nat) : Int)) + 1 ≤ 1) = false := by decide
      obtain ⟨L, hL⟩ : ∃ L, Hid (L = l ++ (List.range 1).map f) := ⟨_, rfl⟩
      rw [← unhide hL] at o1
      obtain ⟨av, cv, ev⟩ := own_form (unhide o1)
      subst ev
      go_wp2_with fail
      go_fit (unhide HS _)
      rintro r w1 ⟨rfl, hb1⟩
      replace o1 := hide (own_below (unhide o1) hb1)
      replace t1 := hide ((unhide t1).trans (KeepT.of_below hb1))
      replace b1 := hide (below_after hb1 (unhide b1) hb)
      clear hb1
      go_wp2_with fail
      go_ret
      exact ⟨_, rfl, by rw [← unhide hL]; exact unhide o1, unhide b1, unhide t1⟩

end Go.Proofs.Ytkhacppaemilgaa
