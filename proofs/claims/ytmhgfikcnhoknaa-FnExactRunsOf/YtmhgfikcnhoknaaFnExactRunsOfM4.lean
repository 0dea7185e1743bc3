/-
  RunL · MaskQ · MaskU: texts of one claim, in one.
-/
import Derived.Test.YtmhgfikcnhoknaaFnExactRunsOfM3
import Derived.Test.YtmhgfikcnhoknaaFnExactRunsOfM2

/-
  The laws' own words on lists of runs: handed over, measured, held against each other, marked and held.
-/
namespace Go.Proofs.Ytmhgfikcnhoknaa
open Go.RowKit
set_option linter.unusedVariables false

theorem own_bxa {w : World} {base t n cap : Nat} {a : Option Addr} {xs : List Value} {G : Nat → B4} (h : w.ownsRow base t 4 (.slice a n cap) n xs) (hx : BxAt xs G n) : ∀ i, i < n → RnAt w a i (G i) := by
  intro i hi
  obtain ⟨g, c, e, _, _⟩ := own_at h (by omega)
  cases e
  obtain ⟨h0, h1, h2, h3⟩ := hx i hi
  refine ⟨g, 0, rfl, ?_, ?_, ?_, ?_⟩
  · rw [Nat.zero_add, h.cellAt _ (by omega)]; exact h0
  · rw [Nat.zero_add, h.cellAt _ (by omega)]; exact h1
  · rw [Nat.zero_add, h.cellAt _ (by omega)]; exact h2
  · rw [Nat.zero_add, h.cellAt _ (by omega)]; exact h3

theorem szRunS_any (ao : Option Addr) (n cap : Nat) (z : Int) (hz : 0 ≤ z ∧ z ≤ 1048576) (hm : n ≤ maxLen) (w : World) :
    Calls Try.prog 18 #[.slice ao n cap, .int .i64 z] w fun r w' => r = .returned (.int .i64 (if z < n then -1 else z - n)) ∧ w' = w := by
  have hw : IntKind.i64.wrap (z - (n : Int)) = z - n := IntWalk.i64_in _ (by unfold maxLen at hm; omega)
  by_cases hlt : z < n
  · have h0 : z - (n : Int) < 0 := by omega
    rw [if_pos hlt]
    go_enter Try.func18, Try.ntmps18
    go_wp2
    go_ret
    exact ⟨rfl, rfl⟩
  · have h0 : ¬ z - (n : Int) < 0 := by omega
    rw [if_neg hlt]
    go_enter Try.func18, Try.ntmps18
    go_wp2
    go_ret
    exact ⟨rfl, rfl⟩

set_option maxHeartbeats 1000000 in
theorem toRun_any (a b c d : Int) (w : World) :
    Calls Try.prog 42 #[.agg #[.int .i64 a, .int .i64 b, .int .i64 c, .int .i64 d]] w fun r w' => r = .returned (.agg #[.int .i64 a, .int .i64 b, .int .i64 c, .int .i64 d]) ∧ Below w.heap.size w w' := by
  go_enter Try.func42, Try.ntmps42
  go_wp2
  refine bodyPost_ret (v := .agg #[.int .i64 a, .int .i64 b, .int .i64 c, .int .i64 d]) (by simp [results, Try.results42, go_sem]) rfl ⟨rfl, ?_⟩
  exact al3_below _ _ _ _

set_option maxHeartbeats 1000000 in
theorem eqRun_same (a b c d : Int) (w : World) :
    Calls Try.prog 39 #[.agg #[.int .i64 a, .int .i64 b, .int .i64 c, .int .i64 d], .agg #[.int .i64 a, .int .i64 b, .int .i64 c, .int .i64 d]] w fun r w' => r = .returned (.bool true) ∧ Below w.heap.size w w' := by
  go_enter Try.func39, Try.ntmps39
  go_wp2
  go_ret
  exact ⟨rfl, al2_below _ _ _⟩

set_option maxHeartbeats 2000000 in
theorem toRunS_own (f : Nat → B4) (ao : Option Addr) (n cap : Nat) (hn : n ≤ 1048576) (w : World) (H : ∀ i, i < n → RnAt w ao i (f i)) :
    Calls Try.prog 21 #[.slice ao n cap] w fun r w' => r = .returned (.slice (some ⟨w.heap.size, 0, none⟩) n n) ∧ (∃ xs, w'.ownsRow w.heap.size 60 4 (.slice (some ⟨w.heap.size, 0, none⟩) n n) n xs ∧ BxAt xs f n) ∧ Below w.heap.size w w' := by
  obtain ⟨i0, hi, hz0, hz1, hz2⟩ := info_parts infoRun
  have HH := hide H
  clear H
  go_enter Try.func21, Try.ntmps21
  go_wp2_with (at_make; go_must (refine wpList_make_full w rfl _ _ 36 rfl w.heap.size 60 i0 (.agg #[.int .i64 0, .int .i64 0, .int .i64 0, .int .i64 0]) 4 Try.underlying36 hi hz0 hz1 .i64 .i64 _ _ n (by rfl) (by rfl) (by omega) (by omega) (by rw [hz2]; omega) (by unfold maxLen; omega) (Nat.le_refl _) ?_); intro w1 hown1 hg1)
  have B1 : Below w.heap.size w w1 := (Below.refl _ w).grown hg1 (Nat.le_refl _) (by simp)
  clear hg1
  go_loopw [4] (fun i u => ∃ (k : Nat) (xs : List Value), k ≤ n ∧ i = .int .i64 k ∧ u.ownsRow w.heap.size 60 4 (.slice (some ⟨w.heap.size, 0, none⟩) n n) n xs ∧ Hid (BxAt xs f k) ∧ Below w.heap.size w u) (fun i _ => n - (intOf i).toNat)
  case atStart => exact ⟨0, _, Nat.zero_le _, rfl, hown1, fun j hj => absurd hj (by omega), B1⟩
  case round =>
    obtain ⟨k, xs, hk, rfl, hown, HX, hb⟩ := hrel
    clear hown1 B1
    have O := hide hown
    by_cases hlt : k < n
    · have HP := (unhide HH k hlt).next hb
      have hst := hide ((unhide HX).step (by have := hown.1; omega))
      generalize f k = p at HP hst
      obtain ⟨x, y, z, t⟩ := p
      obtain ⟨s, o, rfl, g0, g1, g2, g3⟩ := HP
      dsimp only at g0 g1 g2 g3
      have HB := hide hb
      clear hb hown
      have E := hide (toRun_any x y z t)
      go_wp2_with fail
      go_fit (unhide E _)
      rintro r w2 ⟨rfl, hb⟩
      replace O := hide (own_below (unhide O) hb)
      replace HB := hide (below_two (unhide HB) hb)
      clear hb g0 g1 g2 g3
      obtain ⟨v0, v1, v2, v3, c0, c1, c2, c3⟩ := own_cell4 (unhide O) hlt
      have f0 := (unhide O).frozenAt (k * 4)
      have f1 := (unhide O).frozenAt (k * 4 + 1)
      have f2 := (unhide O).frozenAt (k * 4 + 2)
      have f3 := (unhide O).frozenAt (k * 4 + 3)
      go_wp2_with fail
      go_roundw
      case rel => exact ⟨k + 1, _, by omega, by go_num, own_put4 (unhide O) _ _ _ _, hst, below_at4 (unhide HB) (Nat.le_refl _) _ _ _ _ _ _ _ _⟩
      case measure => simp [intOf]; omega
    · have hke : k = n := by omega
      subst hke
      have hp := hide (show ∃ xs, wr.ownsRow w.heap.size 60 4 (.slice (some ⟨w.heap.size, 0, none⟩) k k) k xs ∧ BxAt xs f k from ⟨xs, hown, unhide HX⟩)
      have HB := hide hb
      clear hb hown O HX
      go_wp2_with fail
      go_ret
      exact ⟨rfl, unhide hp, unhide HB⟩

set_option maxHeartbeats 2000000 in
theorem eqRunS_arg (f : Nat → B4) (ao bo : Option Addr) (n cap cap' : Nat) (hn : n ≤ 1048576) (w : World) (HA : ∀ i, i < n → RnAt w ao i (f i)) (HB : ∀ i, i < n → RnAt w bo i (f i)) :
    Calls Try.prog 15 #[.slice ao n cap, .slice bo n cap'] w fun r w' => r = .returned (.bool true) ∧ Below w.heap.size w w' := by
  replace HA := hide HA
  replace HB := hide HB
  go_enter Try.func15, Try.ntmps15
  go_wp2_with fail
  go_loopw [5] (fun i u => ∃ k : Nat, k ≤ n ∧ i = .int .i64 k ∧ Below w.heap.size w u) (fun i _ => n - (intOf i).toNat)
  case atStart => exact ⟨0, Nat.zero_le _, rfl, Below.refl _ _⟩
  case round =>
    obtain ⟨k, hk, rfl, hb⟩ := hrel
    by_cases hlt : k < n
    · have HP := (unhide HA k hlt).next hb
      have HQ := (unhide HB k hlt).next hb
      generalize f k = p at HP HQ
      obtain ⟨x, y, z, t⟩ := p
      obtain ⟨s, o, rfl, g0, g1, g2, g3⟩ := HP
      obtain ⟨s', o', rfl, h0, h1, h2, h3⟩ := HQ
      dsimp only at g0 g1 g2 g3 h0 h1 h2 h3
      replace hb := hide hb
      have E := hide (eqRun_same x y z t)
      go_wp2_with fail
      obtain ⟨I, F, hI, F1, F2⟩ := kept_worlds wr
      have a0 : ∀ i, (F i).cell? ⟨s, o + k * 4, none⟩ = some (.int .i64 x) := fun i => kc (F2 i) g0
      have a1 : ∀ i, (F i).cell? ⟨s, o + k * 4 + 1, none⟩ = some (.int .i64 y) := fun i => kc (F2 i) g1
      have a2 : ∀ i, (F i).cell? ⟨s, o + k * 4 + 2, none⟩ = some (.int .i64 z) := fun i => kc (F2 i) g2
      have a3 : ∀ i, (F i).cell? ⟨s, o + k * 4 + 3, none⟩ = some (.int .i64 t) := fun i => kc (F2 i) g3
      have b0 : ∀ i, (F i).cell? ⟨s', o' + k * 4, none⟩ = some (.int .i64 x) := fun i => kc (F2 i) h0
      have b1 : ∀ i, (F i).cell? ⟨s', o' + k * 4 + 1, none⟩ = some (.int .i64 y) := fun i => kc (F2 i) h1
      have b2 : ∀ i, (F i).cell? ⟨s', o' + k * 4 + 2, none⟩ = some (.int .i64 z) := fun i => kc (F2 i) h2
      have b3 : ∀ i, (F i).cell? ⟨s', o' + k * 4 + 3, none⟩ = some (.int .i64 t) := fun i => kc (F2 i) h3
      clear g0 g1 g2 g3 h0 h1 h2 h3
      replace F1 := hide F1
      replace F2 := hide F2
      refine wp_region_quiet_in (unhide F1) (by kernel_rfl) (by kernel_rfl) ?_
      repeat (go_big_quiet_step (with_reducible exact quiet_in (unhide F1) (unhide F2) (unhide E _)))
      refine wpQuiet_nil ?_
      rintro _ ⟨i, rfl⟩
      have hF := unhide F2 i
      clear F1 a0 a1 a2 a3 b0 b1 b2 b3
      go_wp2_with fail
      go_roundw
      case rel => exact ⟨k + 1, by omega, by go_num, below_two (unhide hb) hF⟩
      case measure => simp [intOf]; omega
    · have hke : k = n := by omega
      subst hke
      go_wp2_with fail
      go_ret
      exact ⟨rfl, hb⟩

set_option maxHeartbeats 2000000 in
theorem markRunS_any (v : Value) (base n k : Nat) (xs : List Value) (hk : k ≤ 10000000) (hn : n ≤ 1048576) (w : World) (hv : w.ownsRow base 60 4 v n xs) :
    Calls Try.prog 16 #[v, .int .i64 k] w fun r w' => r = .returned (.int .i64 ((k + n * 4 : Nat) : Int)) ∧ (∃ ys, w'.ownsRow base 60 4 v n ys ∧ Ramp ys k (n * 4)) ∧ w.grownBy w' v.ownBlock := by
  obtain ⟨p, cap, rfl⟩ := own_form hv
  have hp := fun h => own_at hv h
  have HV := hide hv
  clear hv
  go_enter Try.func16, Try.ntmps16
  go_wp2
  go_loopw [1, 5] (fun t i wr => ∃ (j : Nat) (ys : List Value), j ≤ n ∧ i = .int .i64 j ∧ t = .int .i64 ((k + j * 4 : Nat) : Int) ∧ wr.ownsRow base 60 4 (.slice p n cap) n ys ∧ Hid (Ramp ys k (j * 4)) ∧ w.grownBy wr (Value.slice p n cap).ownBlock) (fun _ i _ => n - (intOf i).toNat)
  case atStart => exact ⟨0, _, Nat.zero_le _, rfl, rfl, unhide HV, fun j hj => absurd hj (by omega), World.grownBy.refl _ _⟩
  case round =>
    obtain ⟨j, ys, hj, rfl, rfl, hown, HR, hgr⟩ := hrel
    have HO := hide hown
    have HG := hide hgr
    by_cases hlt : j < n
    · obtain ⟨g, cap', e, _, _⟩ := hp (by omega)
      cases e
      have hlen : j * 4 + 3 < ys.length := by have := hown.1; omega
      have c0 : wr.cell? ⟨g, j * 4, none⟩ = some ys[j * 4] := by rw [hown.cellAt _ (by omega)]; exact List.getElem?_eq_getElem _
      have f0 := hown.frozenAt (j * 4)
      have o1 := (hown.stored (j * 4) (.int .i64 ((k + j * 4 : Nat) : Int))).1
      have c1 : (wr.setCell ⟨g, j * 4, none⟩ (.int .i64 ((k + j * 4 : Nat) : Int))).cell? ⟨g, j * 4 + 1, none⟩ = some ys[j * 4 + 1] := by rw [o1.cellAt _ (by omega), List.getElem?_set_ne (by omega)]; exact List.getElem?_eq_getElem _
      have f1 := o1.frozenAt (j * 4 + 1)
      have o2 := (o1.stored (j * 4 + 1) (.int .i64 (((k + j * 4 : Nat) : Int) + 1))).1
      have c2 : ((wr.setCell ⟨g, j * 4, none⟩ (.int .i64 ((k + j * 4 : Nat) : Int))).setCell ⟨g, j * 4 + 1, none⟩ (.int .i64 (((k + j * 4 : Nat) : Int) + 1))).cell? ⟨g, j * 4 + 2, none⟩ = some ys[j * 4 + 2] := by rw [o2.cellAt _ (by omega), List.getElem?_set_ne (by omega), List.getElem?_set_ne (by omega)]; exact List.getElem?_eq_getElem _
      have f2 := o2.frozenAt (j * 4 + 2)
      have o3 := (o2.stored (j * 4 + 2) (.int .i64 (((k + j * 4 : Nat) : Int) + 1 + 1))).1
      have c3 : (((wr.setCell ⟨g, j * 4, none⟩ (.int .i64 ((k + j * 4 : Nat) : Int))).setCell ⟨g, j * 4 + 1, none⟩ (.int .i64 (((k + j * 4 : Nat) : Int) + 1))).setCell ⟨g, j * 4 + 2, none⟩ (.int .i64 (((k + j * 4 : Nat) : Int) + 1 + 1))).cell? ⟨g, j * 4 + 3, none⟩ = some ys[j * 4 + 3] := by rw [o3.cellAt _ (by omega), List.getElem?_set_ne (by omega), List.getElem?_set_ne (by omega), List.getElem?_set_ne (by omega)]; exact List.getElem?_eq_getElem _
      have f3 := o3.frozenAt (j * 4 + 3)
      have O3 := hide o3
      have hst := hide (((((unhide HR).step (by omega)).step (by rw [List.length_set]; omega)).step (by rw [List.length_set, List.length_set]; omega)).step (by rw [List.length_set, List.length_set, List.length_set]; exact hlen))
      have G3 := hide (grown_trans (grown_trans (grown_trans hgr (hown.stored (j * 4) (.int .i64 ((k + j * 4 : Nat) : Int))).2) (o1.stored (j * 4 + 1) (.int .i64 (((k + j * 4 : Nat) : Int) + 1))).2) (o2.stored (j * 4 + 2) (.int .i64 (((k + j * 4 : Nat) : Int) + 1 + 1))).2)
      have e1 : ((k + (j * 4 + 1) : Nat) : Int) = ((k + j * 4 : Nat) : Int) + 1 := by omega
      have e2 : ((k + (j * 4 + 1 + 1) : Nat) : Int) = ((k + j * 4 : Nat) : Int) + 1 + 1 := by omega
      have e3 : ((k + (j * 4 + 1 + 1 + 1) : Nat) : Int) = ((k + j * 4 : Nat) : Int) + 1 + 1 + 1 := by omega
      rw [e1, e2, e3] at hst
      change Hid (Ramp ((((ys.set (j * 4) (.int .i64 ((k + j * 4 : Nat) : Int))).set (j * 4 + 1) (.int .i64 (((k + j * 4 : Nat) : Int) + 1))).set (j * 4 + 2) (.int .i64 (((k + j * 4 : Nat) : Int) + 1 + 1))).set (j * 4 + 3) (.int .i64 (((k + j * 4 : Nat) : Int) + 1 + 1 + 1))) k (j * 4 + 4)) at hst
      clear hown hgr o1 o2 o3 e1 e2 e3
      generalize hq : ((k + j * 4 : Nat) : Int) = q at c1 f1 c2 f2 c3 f3 O3 hst G3 ⊢
      have hq0 : 0 ≤ q ∧ q ≤ 4100000000000000000 := by omega
      have hw1 : IntKind.i64.wrap (q + 1) = q + 1 := IntWalk.i64_in _ (by omega)
      have hw2 : IntKind.i64.wrap (q + 1 + 1) = q + 1 + 1 := IntWalk.i64_in _ (by omega)
      have hw3 : IntKind.i64.wrap (q + 1 + 1 + 1) = q + 1 + 1 + 1 := IntWalk.i64_in _ (by omega)
      have hw4 : IntKind.i64.wrap (q + 1 + 1 + 1 + 1) = q + 1 + 1 + 1 + 1 := IntWalk.i64_in _ (by omega)
      replace hq := hide hq
      go_wp2_with fail
      go_roundw
      case rel => exact ⟨j + 1, _, by omega, by go_num, by rw [← unhide hq]; go_num, ((unhide O3).stored (j * 4 + 3) _).1, by have := unhide hst; rw [show (j + 1) * 4 = j * 4 + 4 by omega]; exact this, grown_trans (unhide G3) ((unhide O3).stored (j * 4 + 3) _).2⟩
      case measure => simp [intOf]; omega
    · have hje : j = n := by omega
      subst hje
      clear hown hgr
      go_wp2
      go_ret
      exact ⟨rfl, ⟨ys, unhide HO, unhide HR⟩, unhide HG⟩

set_option maxHeartbeats 2000000 in
theorem heldRunS_yes (v : Value) (base n k : Nat) (ys : List Value) (hk : k ≤ 10000000) (hn : n ≤ 1048576) (w : World) (hv : w.ownsRow base 60 4 v n ys) (hr : Ramp ys k (n * 4)) :
    Calls Try.prog 17 #[v, .int .i64 k] w fun r w' => r = .returned (.int .i64 ((k + n * 4 : Nat) : Int)) ∧ w' = w := by
  obtain ⟨p, cap, rfl⟩ := own_form hv
  have hp := fun h => own_at hv h
  replace hv := hide hv
  replace hr := hide hr
  go_enter Try.func17, Try.ntmps17
  go_wp2
  go_loopw [1, 5] (fun t i wr => ∃ j : Nat, j ≤ n ∧ i = .int .i64 j ∧ t = .int .i64 ((k + j * 4 : Nat) : Int) ∧ wr = w) (fun _ i _ => n - (intOf i).toNat)
  case atStart => exact ⟨0, Nat.zero_le _, rfl, rfl, rfl⟩
  case round =>
    obtain ⟨j, hj, rfl, rfl, rfl⟩ := hrel
    by_cases hlt : j < n
    · obtain ⟨g, cap', e, _, _⟩ := hp (by omega)
      cases e
      have c0 : wr.cell? ⟨g, j * 4, none⟩ = some (.int .i64 ((k + j * 4 : Nat) : Int)) := by rw [(unhide hv).cellAt _ (by omega)]; exact unhide hr _ (by omega)
      have c1 : wr.cell? ⟨g, j * 4 + 1, none⟩ = some (.int .i64 (((k + j * 4 : Nat) : Int) + 1)) := by rw [(unhide hv).cellAt _ (by omega), unhide hr _ (by omega)]; congr 2
      have c2 : wr.cell? ⟨g, j * 4 + 2, none⟩ = some (.int .i64 (((k + j * 4 : Nat) : Int) + 1 + 1)) := by rw [(unhide hv).cellAt _ (by omega), unhide hr _ (by omega)]; exact congrArg (fun z => some (Value.int .i64 z)) (by omega)
      have c3 : wr.cell? ⟨g, j * 4 + 3, none⟩ = some (.int .i64 (((k + j * 4 : Nat) : Int) + 1 + 1 + 1)) := by rw [(unhide hv).cellAt _ (by omega), unhide hr _ (by omega)]; exact congrArg (fun z => some (Value.int .i64 z)) (by omega)
      generalize hq : ((k + j * 4 : Nat) : Int) = q at c0 c1 c2 c3 ⊢
      have hq0 : 0 ≤ q ∧ q ≤ 4100000000000000000 := by omega
      have hw1 : IntKind.i64.wrap (q + 1) = q + 1 := IntWalk.i64_in _ (by omega)
      have hw2 : IntKind.i64.wrap (q + 1 + 1) = q + 1 + 1 := IntWalk.i64_in _ (by omega)
      have hw3 : IntKind.i64.wrap (q + 1 + 1 + 1) = q + 1 + 1 + 1 := IntWalk.i64_in _ (by omega)
      have hw4 : IntKind.i64.wrap (q + 1 + 1 + 1 + 1) = q + 1 + 1 + 1 + 1 := IntWalk.i64_in _ (by omega)
      replace hq := hide hq
      go_wp2_with fail
      go_roundw
      case rel => exact ⟨j + 1, by omega, by go_num, by rw [← unhide hq]; go_num, by trivial⟩
      case measure => simp [intOf]; omega
    · have hje : j = n := by omega
      subst hje
      go_wp2
      go_ret
      exact ⟨rfl, rfl⟩
end Go.Proofs.Ytmhgfikcnhoknaa

/-
  Runs: what they are, that they ascend, and that they paint the mask whose they are.
-/
namespace Go.Proofs.Ytmhgfikcnhoknaa
open Go.RowKit
set_option linter.unusedVariables false

/-- A run of a row: within it, of one and the same bits, not 0. -/
def RowRun (g : Nat → Int) (W x0 : Nat) (r : Nat × Nat × Int) : Prop := x0 ≤ r.1 ∧ r.1 < r.2.1 ∧ r.2.1 ≤ W ∧ r.2.2 ≠ 0 ∧ ∀ i, r.1 ≤ i → i < r.2.1 → g i = r.2.2
theorem rowR_mem (g : Nat → Int) (W : Nat) : ∀ (k x : Nat), W ≤ x + k → ∀ r ∈ rowR g W x, RowRun g W x r := by
  intro k
  induction k with
  | zero => intro x h r hr; rw [rowR_end (by omega)] at hr; cases hr
  | succ k ih =>
    intro x h r hr
    rcases rowR_cases g W x with ⟨_, e⟩ | ⟨h1, h2, e⟩ | ⟨e', h1, h2, h3, h4, h5, e⟩
    · rw [e] at hr; cases hr
    · rw [e] at hr
      obtain ⟨a1, a2⟩ := ih (x + 1) (by omega) r hr
      exact ⟨by omega, a2⟩
    · rw [e] at hr
      rcases List.mem_cons.1 hr with rfl | hr
      · exact ⟨Nat.le_refl _, h1, h2, h3, h4⟩
      · obtain ⟨a1, a2⟩ := ih e' (by omega) r hr
        exact ⟨by omega, a2⟩
theorem rowR_hit (g : Nat → Int) (W : Nat) : ∀ (k x : Nat), W ≤ x + k → ∀ i, x ≤ i → i < W → g i ≠ 0 → ∃ r ∈ rowR g W x, r.1 ≤ i ∧ i < r.2.1 := by
  intro k
  induction k with
  | zero => intro x h i h1 h2; omega
  | succ k ih =>
    intro x h i h1 h2 h3
    rcases rowR_cases g W x with ⟨a1, e⟩ | ⟨a1, a2, e⟩ | ⟨e', a1, a2, a3, a4, a5, e⟩
    · omega
    · rw [e]
      have : x ≠ i := fun hx => h3 (by rw [← hx]; exact a2)
      exact ih (x + 1) (by omega) i (by omega) h2 h3
    · rw [e]
      by_cases hi : i < e'
      · exact ⟨_, List.mem_cons_self .., h1, hi⟩
      · obtain ⟨r, hr, h4⟩ := ih e' (by omega) i (by omega) h2 h3
        exact ⟨r, List.mem_cons_of_mem _ hr, h4⟩
/-- One run stands ahead of another in its row. -/
def RowAsc (r s : Nat × Nat × Int) : Prop := r.2.1 < s.1 ∨ (r.2.1 = s.1 ∧ r.2.2 ≠ s.2.2)
theorem rowR_asc (g : Nat → Int) (W : Nat) : ∀ (k x : Nat), W ≤ x + k → (rowR g W x).Pairwise RowAsc := by
  intro k
  induction k with
  | zero => intro x h; rw [rowR_end (by omega)]; exact .nil
  | succ k ih =>
    intro x h
    rcases rowR_cases g W x with ⟨_, e⟩ | ⟨h1, h2, e⟩ | ⟨e', h1, h2, h3, h4, h5, e⟩
    · rw [e]; exact .nil
    · rw [e]; exact ih (x + 1) (by omega)
    · rw [e]
      refine .cons (fun s hs => ?_) (ih e' (by omega))
      obtain ⟨a1, a2, a3, a4, a5⟩ := rowR_mem g W k e' (by omega) s hs
      by_cases hx : e' = s.1
      · refine .inr ⟨hx, fun hv => ?_⟩
        rcases h5 with h5 | h5
        · omega
        · exact h5 ((a5 e' (by omega) (by omega)).trans hv.symm)
      · exact .inl (by show e' < s.1; omega)
theorem rowR_len (g : Nat → Int) (W : Nat) : ∀ (k x : Nat), W ≤ x + k → (rowR g W x).length ≤ k := by
  intro k
  induction k with
  | zero => intro x h; rw [rowR_end (by omega)]; exact Nat.le_refl _
  | succ k ih =>
    intro x h
    rcases rowR_cases g W x with ⟨_, e⟩ | ⟨h1, h2, e⟩ | ⟨e', h1, h2, h3, h4, h5, e⟩
    · rw [e]; exact Nat.zero_le _
    · rw [e]; exact Nat.le_trans (ih (x + 1) (by omega)) (by omega)
    · rw [e]; have := ih e' (by omega); simp only [List.length_cons]; omega

/-! ### of a mask -/
/-- Row number j is the row of this run. -/
structure MaskRun (a b : Int) (W H : Nat) (f : Nat → Int) (r : B4) : Prop where
  row : ∃ j : Nat, j < H ∧ r.x0 = b + (j : Int) ∧ ∃ x e : Nat, x < e ∧ e ≤ W ∧ r.y0 = a + (x : Int) ∧ r.x1 = a + (e : Int) ∧ ∀ i, x ≤ i → i < e → f (j * W + i) = r.y1
  bits : r.y1 ≠ 0
theorem runsN_mem (a b : Int) (W : Nat) (f : Nat → Int) : ∀ (H : Nat), ∀ r ∈ runsN a b W f H, MaskRun a b W H f r
  | 0, r, hr => by cases hr
  | H + 1, r, hr => by
    rcases List.mem_append.1 hr with hr | hr
    · obtain ⟨⟨j, hj, h⟩, hb⟩ := runsN_mem a b W f H r hr
      exact ⟨⟨j, by omega, h⟩, hb⟩
    · obtain ⟨s, hs, rfl⟩ := List.mem_map.1 hr
      obtain ⟨h1, h2, h3, h4, h5⟩ := rowR_mem _ W W 0 (by omega) s hs
      exact ⟨⟨H, by omega, rfl, s.1, s.2.1, h2, h3, rfl, rfl, h5⟩, h4⟩
theorem runsN_hit (a b : Int) (W : Nat) (f : Nat → Int) : ∀ (H j i : Nat), j < H → i < W → f (j * W + i) ≠ 0 → ∃ r ∈ runsN a b W f H, r.x0 = b + (j : Int) ∧ r.y0 ≤ a + (i : Int) ∧ a + (i : Int) < r.x1
  | H + 1, j, i, hj, hi, h0 => by
    by_cases hjH : j = H
    · subst hjH
      obtain ⟨s, hs, h1, h2⟩ := rowR_hit (fun i => f (j * W + i)) W W 0 (by omega) i (by omega) hi h0
      refine ⟨_, List.mem_append.2 (.inr (List.mem_map.2 ⟨s, hs, rfl⟩)), rfl, ?_, ?_⟩
      · show a + (s.1 : Int) ≤ a + (i : Int); omega
      · show a + (i : Int) < a + (s.2.1 : Int); omega
    · obtain ⟨r, hr, h⟩ := runsN_hit a b W f H j i (by omega) hi h0
      exact ⟨r, List.mem_append.2 (.inl hr), h⟩
/-- One run stands ahead of another. -/
def RunAsc (r s : B4) : Prop := r.x0 < s.x0 ∨ (r.x0 = s.x0 ∧ (r.x1 < s.y0 ∨ (r.x1 = s.y0 ∧ r.y1 ≠ s.y1)))
theorem runsN_asc (a b : Int) (W : Nat) (f : Nat → Int) : ∀ (H : Nat), (runsN a b W f H).Pairwise RunAsc
  | 0 => .nil
  | H + 1 => by
    refine List.pairwise_append.2 ⟨runsN_asc a b W f H, ?_, fun r hr s hs => ?_⟩
    · refine List.pairwise_map.2 ((rowR_asc _ W W 0 (by omega)).imp ?_)
      rintro ⟨x, e, v⟩ ⟨x', e', v'⟩ h
      refine .inr ⟨rfl, ?_⟩
      rcases h with h | ⟨h, h'⟩
      · exact .inl (by show a + (e : Int) < a + (x' : Int); dsimp only at h; omega)
      · exact .inr ⟨by show a + (e : Int) = a + (x' : Int); dsimp only at h; omega, h'⟩
    · obtain ⟨⟨j, hj, h1, _⟩, _⟩ := runsN_mem a b W f H r hr
      obtain ⟨s', _, rfl⟩ := List.mem_map.1 hs
      exact .inl (by rw [h1]; show b + (j : Int) < b + (H : Int); omega)
theorem runsN_len (a b : Int) (W : Nat) (f : Nat → Int) : ∀ (H : Nat), (runsN a b W f H).length ≤ W * H
  | 0 => by simp [runsN]
  | H + 1 => by
    have := runsN_len a b W f H
    have := rowR_len (fun i => f (H * W + i)) W W 0 (by omega)
    simp only [runsN, List.length_append, List.length_map]
    rw [Nat.mul_succ]; omega

/-! ### painted -/
/-- A run that lies in the box. -/
def inRunB (a b c d : Int) (r : B4) : Bool := inB r.x0 b (d - 1) && (inB r.y0 a (c - 1) && inB r.x1 (r.y0 + 1) c)
/-- Whether a run has the bits at this place. -/
def hitP (a b c : Int) (r : B4) (i : Nat) : Prop := placeI a b c r.y0 r.x0 ≤ (i : Int) ∧ (i : Int) < placeI a b c r.x1 r.x0
instance (a b c : Int) (r : B4) (i : Nat) : Decidable (hitP a b c r i) := by unfold hitP; infer_instance
/-- Painted by the first k runs. -/
def paintN (a b c : Int) (G : Nat → B4) : Nat → Nat → Int
  | 0, _ => 0
  | k + 1, i => if hitP a b c (G k) i then (G k).y1 else paintN a b c G k i
theorem paintN_some {a b c : Int} {G : Nat → B4} {i : Nat} {v : Int} : ∀ {m : Nat}, (∀ k, k < m → hitP a b c (G k) i → (G k).y1 = v) → (∃ k, k < m ∧ hitP a b c (G k) i) → paintN a b c G m i = v
  | 0, _, ⟨k, hk, _⟩ => by omega
  | m + 1, h, ⟨k, hk, hh⟩ => by
    rw [paintN]
    by_cases hm : hitP a b c (G m) i
    · rw [if_pos hm]; exact h m (by omega) hm
    · rw [if_neg hm]
      refine paintN_some (fun k hk => h k (by omega)) ⟨k, ?_, hh⟩
      by_cases e : k = m
      · subst e; exact absurd hh hm
      · omega
theorem paintN_none {a b c : Int} {G : Nat → B4} {i : Nat} : ∀ {m : Nat}, (∀ k, k < m → ¬ hitP a b c (G k) i) → paintN a b c G m i = 0
  | 0, _ => rfl
  | m + 1, h => by rw [paintN, if_neg (h m (by omega))]; exact paintN_none (fun k hk => h k (by omega))
def listB (l : List B4) (i : Nat) : B4 := l.getD i ⟨0, 0, 0, 0⟩
theorem listB_get {l : List B4} {k : Nat} (h : k < l.length) : listB l k = l[k] := by unfold listB; simp [h]
theorem listB_mem {l : List B4} {k : Nat} (h : k < l.length) : listB l k ∈ l := by rw [listB_get h]; exact List.getElem_mem h
theorem mem_listB {l : List B4} {r : B4} (h : r ∈ l) : ∃ k, k < l.length ∧ listB l k = r := by
  obtain ⟨k, hk, e⟩ := List.mem_iff_getElem.1 h
  exact ⟨k, hk, by rw [listB_get hk]; exact e⟩
/-- **Runs paint the mask whose they are.** -/
theorem paint_runs {a b c d : Int} (hb : boxInB a b c d = true) (f : Nat → Int) {i : Nat} (hi : i < sqN a b c d) : paintN a b c (listB (runsL a b c d f)) (runsL a b c d f).length i = f i := by
  obtain ⟨h1, h2, _⟩ := boxIn_iff.1 hb
  have hw : ((wideN a c : Nat) : Int) = c - a := by unfold wideN; omega
  have hwp : 0 < wideN a c := by unfold wideN; omega
  have hm := Nat.mod_lt i hwp
  have hdv : i / wideN a c < wideN b d := Nat.div_lt_of_lt_mul (by unfold sqN at hi; exact hi)
  have hdm := Nat.div_add_mod i (wideN a c)
  obtain ⟨q, hq⟩ : ∃ q, q = i / wideN a c := ⟨_, rfl⟩
  obtain ⟨r, hr⟩ : ∃ r, r = i % wideN a c := ⟨_, rfl⟩
  rw [← hq, ← hr] at hdm
  rw [← hq] at hdv
  rw [← hr] at hm
  have hi' : i = q * wideN a c + r := by rw [Nat.mul_comm]; omega
  -- where a run hits
  have key : ∀ (j x e : Nat) (s : B4), s.x0 = b + (j : Int) → s.y0 = a + (x : Int) → s.x1 = a + (e : Int) → x < e → e ≤ wideN a c → (hitP a b c s i ↔ j = q ∧ x ≤ r ∧ r < e) := by
    intro j x e s e1 e2 e3 hxe heW
    unfold hitP placeI
    rw [e1, e2, e3, ← hw]
    have p1 : b + (j : Int) - b = (j : Int) := by omega
    rw [p1, hi', Int.natCast_add, Int.natCast_mul]
    have p2 : (j : Int) * ((wideN a c : Nat) : Int) = ((j * wideN a c : Nat) : Int) := (Int.natCast_mul _ _).symm
    have p3 : (q : Int) * ((wideN a c : Nat) : Int) = ((q * wideN a c : Nat) : Int) := (Int.natCast_mul _ _).symm
    rw [p2, p3]
    generalize wideN a c = W at hm heW
    constructor
    · intro h
      have hjq : j = q := by
        rcases Nat.lt_trichotomy j q with hlt | heq | hgt
        · have : (j + 1) * W ≤ q * W := Nat.mul_le_mul_right W hlt
          rw [Nat.succ_mul] at this; omega
        · exact heq
        · have : (q + 1) * W ≤ j * W := Nat.mul_le_mul_right W hgt
          rw [Nat.succ_mul] at this; omega
      subst hjq
      omega
    · rintro ⟨rfl, h3, h4⟩; omega
  by_cases h0 : f i = 0
  · rw [h0]
    refine paintN_none (fun k hk hh => ?_)
    obtain ⟨⟨j, hj, e1, x, e, hxe, heW, e2, e3, hv⟩, hne⟩ := runsN_mem a b (wideN a c) f (wideN b d) _ (listB_mem (l := runsL a b c d f) hk)
    obtain ⟨rfl, h3, h4⟩ := (key j x e _ e1 e2 e3 hxe heW).1 hh
    have := hv r h3 h4
    rw [← hi', h0] at this
    exact hne this.symm
  · refine paintN_some (fun k hk hh => ?_) ?_
    · obtain ⟨⟨j, hj, e1, x, e, hxe, heW, e2, e3, hv⟩, hne⟩ := runsN_mem a b (wideN a c) f (wideN b d) _ (listB_mem (l := runsL a b c d f) hk)
      obtain ⟨rfl, h3, h4⟩ := (key j x e _ e1 e2 e3 hxe heW).1 hh
      have := hv r h3 h4
      rw [← hi'] at this
      exact this.symm
    · obtain ⟨s, hs, e1, h3, h4⟩ := runsN_hit a b (wideN a c) f (wideN b d) q r hdv hm (by rw [← hi']; exact h0)
      obtain ⟨⟨j, hj, e1', x, e, hxe, heW, e2, e3, hv⟩, hne⟩ := runsN_mem a b (wideN a c) f (wideN b d) s hs
      obtain ⟨k, hk, ek⟩ := mem_listB (l := runsL a b c d f) hs
      refine ⟨k, hk, ?_⟩
      rw [ek]
      exact (key j x e s e1' e2 e3 hxe heW).2 ⟨by omega, by omega, by omega⟩
theorem runsL_in {a b c d : Int} (hb : boxInB a b c d = true) (f : Nat → Int) {r : B4} (hr : r ∈ runsL a b c d f) : inRunB a b c d r = true ∧ r.y1 ≠ 0 := by
  obtain ⟨h1, h2, _⟩ := boxIn_iff.1 hb
  have hw : ((wideN a c : Nat) : Int) = c - a := by unfold wideN; omega
  have hh : ((wideN b d : Nat) : Int) = d - b := by unfold wideN; omega
  obtain ⟨⟨j, hj, e1, x, e, hxe, heW, e2, e3, hv⟩, hne⟩ := runsN_mem a b (wideN a c) f (wideN b d) r hr
  refine ⟨?_, hne⟩
  unfold inRunB
  rw [Bool.and_eq_true, Bool.and_eq_true, inB_true, inB_true, inB_true]
  omega
theorem runsL_len {a b c d : Int} (f : Nat → Int) : (runsL a b c d f).length ≤ sqN a b c d := runsN_len a b (wideN a c) f (wideN b d)
theorem runsL_asc {a b c d : Int} (f : Nat → Int) : (runsL a b c d f).Pairwise RunAsc := runsN_asc a b (wideN a c) f (wideN b d)
/-- The bits within a run. -/
theorem runsL_at {a b c d : Int} (hb : boxInB a b c d = true) (f : Nat → Int) {r : B4} (hr : r ∈ runsL a b c d f) {x : Int} (h1 : r.y0 ≤ x) (h2 : x < r.x1) : atI a b c d f x r.x0 = r.y1 := by
  obtain ⟨p1, p2, _⟩ := boxIn_iff.1 hb
  have hw : ((wideN a c : Nat) : Int) = c - a := by unfold wideN; omega
  have hh : ((wideN b d : Nat) : Int) = d - b := by unfold wideN; omega
  obtain ⟨⟨j, hj, e1, x0, e, hxe, heW, e2, e3, hv⟩, hne⟩ := runsN_mem a b (wideN a c) f (wideN b d) r hr
  have hin : inBoxB a b c d x r.x0 = true := by
    unfold inBoxB
    rw [decide_eq_true (by omega), decide_eq_true (by omega), decide_eq_true (by omega), decide_eq_true (by omega)]; rfl
  unfold atI
  rw [if_pos hin, ← hv (x - a).toNat (by omega) (by omega)]
  congr 1
  unfold placeI
  rw [e1, ← hw]
  have p3 : b + (j : Int) - b = (j : Int) := by omega
  have p4 : (j : Int) * ((wideN a c : Nat) : Int) = ((j * wideN a c : Nat) : Int) := (Int.natCast_mul _ _).symm
  rw [p3, p4]; omega
/-- The runs of two masks that have the same bits are the same. -/
theorem rowR_congr {g g' : Nat → Int} {W : Nat} (h : ∀ i, i < W → g i = g' i) : ∀ (k x : Nat), W ≤ x + k → rowR g W x = rowR g' W x := by
  intro k
  induction k with
  | zero => intro x hx; rw [rowR_end (by omega), rowR_end (by omega)]
  | succ k ih =>
    intro x hx
    rcases rowR_cases g W x with ⟨a1, e⟩ | ⟨a1, a2, e⟩ | ⟨e', a1, a2, a3, a4, a5, e⟩
    · rw [e, rowR_end a1]
    · rw [e, rowR_zero a1 (by rw [← h x a1]; exact a2)]; exact ih (x + 1) (by omega)
    · rw [e, ih e' (by omega)]
      refine (rowR_run a1 a2 a3 (fun i h1 h2 => by rw [← h i (by omega)]; exact a4 i h1 h2) ?_).symm
      rcases a5 with a5 | a5
      · exact .inl a5
      · by_cases he : e' = W
        · exact .inl he
        · exact .inr (by rw [← h e' (by omega)]; exact a5)
theorem runsN_congr {a b : Int} {W : Nat} {f f' : Nat → Int} : ∀ (H : Nat), (∀ i, i < W * H → f i = f' i) → runsN a b W f H = runsN a b W f' H
  | 0, _ => rfl
  | H + 1, h => by
    rw [runsN, runsN, runsN_congr H (fun i hi => h i (by rw [Nat.mul_succ]; omega)), rowR_congr (W := W) (g := fun i => f (H * W + i)) (g' := fun i => f' (H * W + i)) (fun i hi => h _ (by rw [Nat.mul_succ, Nat.mul_comm W H]; omega)) W 0 (by omega)]
theorem runsL_congr {a b c d : Int} {f f' : Nat → Int} (h : ∀ i, i < sqN a b c d → f i = f' i) : runsL a b c d f = runsL a b c d f' := runsN_congr _ h
/-- A box and runs that are those of a mask with this box. -/
def ByOk (a b c d : Int) (m : Nat) (G : Nat → B4) : Prop :=
  (a = 0 ∧ b = 0 ∧ c = 0 ∧ d = 0 ∧ m = 0) ∨ (boxInB a b c d = true ∧ m ≤ 3600 ∧ (∀ k, k < m → inRunB a b c d (G k) = true) ∧ (∀ i, i < sqN a b c d → inB (paintN a b c G m i) 0 15 = true) ∧ (runsL a b c d (paintN a b c G m)).length = m ∧ ∀ k, k < m → listB (runsL a b c d (paintN a b c G m)) k = G k)
open Classical in
noncomputable def byOkB (a b c d : Int) (m : Nat) (G : Nat → B4) : Bool := decide (ByOk a b c d m G)
theorem byOk_iff {a b c d : Int} {m : Nat} {G : Nat → B4} : byOkB a b c d m G = true ↔ ByOk a b c d m G := by unfold byOkB; simp
theorem byOk_no {a b c d : Int} {m : Nat} {G : Nat → B4} (h : ¬ ByOk a b c d m G) : byOkB a b c d m G = false := by
  cases e : byOkB a b c d m G with
  | true => exact absurd (byOk_iff.1 e) h
  | false => rfl
/-- **A right mask comes back from its runs.** -/
theorem by_runs {a b c d : Int} {n : Nat} {f : Nat → Int} (h : MOk a b c d n f) : ByOk a b c d (runsM a b c d n f).length (listB (runsM a b c d n f)) := by
  unfold runsM
  rw [if_pos (maskOk_iff.2 h)]
  rcases h with ⟨hn, rfl, rfl, rfl, rfl⟩ | ⟨_, hb, hn, hf⟩
  · exact .inl ⟨rfl, rfl, rfl, rfl, rfl⟩
  · refine .inr ⟨hb, Nat.le_trans (runsL_len f) (sqN_le hb).1, fun k hk => (runsL_in hb f (listB_mem hk)).1, fun i hi => ?_, ?_, fun k hk => ?_⟩
    · rw [paint_runs hb f hi]; exact hf i (by omega)
    · rw [runsL_congr (f' := f) (fun i hi => paint_runs hb f hi)]
    · rw [runsL_congr (f' := f) (fun i hi => paint_runs hb f hi)]
end Go.Proofs.Ytmhgfikcnhoknaa

/-
  The specification's RunsOf.
-/
namespace Go.Proofs.Ytmhgfikcnhoknaa
open Go.RowKit
set_option linter.unusedVariables false

theorem at_row {a b c d : Int} {f : Nat → Int} {W0 H0 : Nat} (hW : (W0 : Int) = c - a) (hH : (H0 : Int) = d - b) {j t : Nat} (hj : j < H0) (ht : t < W0) : atI a b c d f (a + (t : Int)) (b + (j : Int)) = f (j * W0 + t) := by
  have hin : inBoxB a b c d (a + (t : Int)) (b + (j : Int)) = true := by
    unfold inBoxB
    rw [decide_eq_true (by omega), decide_eq_true (by omega), decide_eq_true (by omega), decide_eq_true (by omega)]; rfl
  unfold atI
  rw [if_pos hin]
  congr 1
  unfold placeI
  rw [← hW]
  have p3 : b + (j : Int) - b = (j : Int) := by omega
  have p4 : (j : Int) * (W0 : Int) = ((j * W0 : Nat) : Int) := (Int.natCast_mul _ _).symm
  rw [p3, p4]; omega

set_option maxHeartbeats 8000000 in
set_option maxRecDepth 100000 in
theorem specRunsOf_any (a b c d : Int) (f : Nat → Int) (ao : Option Addr) (n cp : Nat) (hn : n ≤ 1048576) (w : World) (P : ∀ i, i < n → IntAt w ao i (f i)) :
    Calls Try.prog 13 #[.agg #[.int .i64 a, .int .i64 b, .int .i64 c, .int .i64 d, .slice ao n cp]] w fun r w' => RunsRes w r w' (runsM a b c d n f) := by
  obtain ⟨i1, hi1, hz1, hs1, hb1⟩ := info_parts infoRun
  have EM := hide (fun u P => specMaskOk_any a b c d f ao n cp hn u P)
  have EL := hide (fun (h : maskOkB a b c d n f = true) (x y : Int) u P => specL11Bits_any a b c d f ao n cp hn x y u P (maskOk_iff.1 h))
  have hR : Hid (runsM a b c d n f = if maskOkB a b c d n f = true then runsL a b c d f else []) := rfl
  have hbx : Hid (maskOkB a b c d n f = true → a ≤ c ∧ b ≤ d ∧ -2000 ≤ a ∧ -2000 ≤ b ∧ c ≤ 2000 ∧ d ≤ 2000 ∧ c - a ≤ 60 ∧ d - b ≤ 60) := fun h => by
    rcases maskOk_iff.1 h with ⟨_, rfl, rfl, rfl, rfl⟩ | ⟨_, h, _⟩
    · omega
    · rw [boxIn_iff] at h; omega
  generalize maskOkB a b c d n f = mo at EM EL hR hbx
  obtain ⟨L, hL⟩ : ∃ L, Hid (runsM a b c d n f = L) := ⟨_, rfl⟩
  rw [unhide hL] at hR ⊢
  replace P := hide P
  go_enter Try.func13, Try.ntmps13
  go_upto_region 2 with fail
  have R1 := hide (al2_0 w (.cells #[.int .i64 a, .int .i64 b, .int .i64 c, .int .i64 d, .slice ao n cp] 30) (.cells #[] 60))
  have HB := hide (al2_below w (.cells #[.int .i64 a, .int .i64 b, .int .i64 c, .int .i64 d, .slice ao n cp] 30) (.cells #[] 60))
  have O := hide (show ((w.alloc (.cells #[.int .i64 a, .int .i64 b, .int .i64 c, .int .i64 d, .slice ao n cp] 30)).alloc (.cells #[] 60)).ownsRow (w.heap.size + 1) 60 4 (.slice (some ⟨w.heap.size + 1, 0, none⟩) 0 0) 0 [] by
    have h := World.ownsRow_lit (base := w.heap.size + 1) (e := 60) (size := 4) (w.alloc (.cells #[.int .i64 a, .int .i64 b, .int .i64 c, .int .i64 d, .slice ao n cp] 30)) #[] 0 (by rw [al1_size]; exact Nat.le_refl _) (by decide) rfl
    rw [al1_size] at h
    exact h)
  obtain ⟨b3, hb3⟩ : ∃ b, Hid (b = w.heap.size + 1) := ⟨_, rfl⟩
  obtain ⟨b1, hb1'⟩ : ∃ b, Hid (b = w.heap.size) := ⟨_, rfl⟩
  rw [← unhide hb3] at O
  rw [← unhide hb1'] at R1
  rw [← unhide hb3, ← unhide hb1']
  generalize (w.alloc (.cells #[.int .i64 a, .int .i64 b, .int .i64 c, .int .i64 d, .slice ao n cp] 30)).alloc (.cells #[] 60) = W at R1 HB O ⊢
  have lb : Hid (w.heap.size ≤ b3 ∧ b1 < b3) := by unfold Hid; rw [unhide hb3, unhide hb1']; omega
  obtain ⟨q0, q1, q2, q3, q4⟩ := row5m (unhide R1)
  have EM1 := hide (unhide EM W (fun i hi => (unhide P i hi).next (unhide HB)))
  clear EM
  go_wp2_with fail
  go_fit (unhide EM1)
  rintro r w1 ⟨rfl, hb⟩
  replace R1 := hide (row_next hb (unhide R1))
  replace O := hide (own_below (unhide O) hb)
  replace HB := hide (below_two (unhide HB) hb)
  clear hb q0 q1 q2 q3 q4 EM1
  cases mo with
  | false =>
    have hL0 : Hid (L = []) := by unfold Hid; rw [unhide hR]; simp
    go_wp2_with fail
    go_ret
    rw [unhide hL0]
    exact ⟨_, rfl, own_low (unhide O) (unhide lb).1, unhide HB⟩
  | true =>
  have hbx' := unhide hbx (by trivial)
  obtain ⟨W0, hW0⟩ : ∃ W0, W0 = wideN a c := ⟨_, rfl⟩
  obtain ⟨H0, hH0⟩ : ∃ H0, H0 = wideN b d := ⟨_, rfl⟩
  have hWi : (W0 : Int) = c - a := by rw [hW0]; unfold wideN; omega
  have hHi : (H0 : Int) = d - b := by rw [hH0]; unfold wideN; omega
  have hL1 : Hid (L = runsN a b W0 f H0) := by
    unfold Hid; rw [unhide hR, hW0, hH0]; simp [runsL]
  have hWl : W0 ≤ 60 := by omega
  have hHl : H0 ≤ 60 := by omega
  clear hR hW0 hH0 hbx hL
  obtain ⟨q0, q1, q2, q3, q4⟩ := row5m (unhide R1)
  go_upto_region 5 with fail
  clear q0 q1 q2 q3 q4
  have O2 : Hid (w1.ownsRow b3 60 4 (.slice (some ⟨b3, 0, none⟩) 0 0) ([] : List B4).length (rsV [])) := unhide O
  clear O
  go_loopw [3, 4] (fun v y u => ∃ (j : Nat) (pp : Option Addr) (cq : Nat), j ≤ H0 ∧ y = .int .i64 (b + (j : Int)) ∧ v = .slice pp (runsN a b W0 f j).length cq ∧ Hid (u.ownsRow b3 60 4 (.slice pp (runsN a b W0 f j).length cq) (runsN a b W0 f j).length (rsV (runsN a b W0 f j))) ∧ Hid (u.heap[b1]? = some (.cells #[.int .i64 a, .int .i64 b, .int .i64 c, .int .i64 d, .slice ao n cp] 30 (0, 0))) ∧ Hid (Below w.heap.size w u)) (fun _ y _ => (d - intOf y).toNat)
  case atStart => exact ⟨0, _, _, Nat.zero_le _, by simp, rfl, O2, R1, HB⟩
  case round =>
    clear O2 R1 HB
    obtain ⟨j, pp, cq, hj, rfl, rfl, O, R1, HB⟩ := hrel
    obtain ⟨q0, q1, q2, q3, q4⟩ := row5m (unhide R1)
    by_cases hlt : j < H0
    · have hji : b + (j : Int) < d := by omega
      have wj : IntKind.i64.wrap (b + (j : Int) + 1) = b + (j : Int) + 1 := IntWalk.i64_in _ (by omega)
      obtain ⟨gg, hgg⟩ : ∃ gg : Nat → Int, gg = fun i => f (j * W0 + i) := ⟨_, rfl⟩
      have hnx : Hid (runsN a b W0 f (j + 1) = runsN a b W0 f j ++ (rowR gg W0 0).map (runOf a (b + (j : Int)))) := by rw [hgg]; rfl
      have hat : Hid (∀ t : Nat, t < W0 → atI a b c d f (a + (t : Int)) (b + (j : Int)) = gg t) := fun t ht => by rw [hgg]; exact at_row hWi hHi hlt ht
      have hlen : Hid ((runsN a b W0 f (j + 1)).length ≤ 3600) := by
        have := runsN_len a b W0 f (j + 1)
        have : W0 * (j + 1) ≤ 60 * 60 := Nat.mul_le_mul hWl (by omega)
        unfold Hid; omega
      obtain ⟨NX, hNX⟩ : ∃ NX, Hid (NX = runsN a b W0 f (j + 1)) := ⟨_, rfl⟩
      rw [← unhide hNX] at hnx hlen
      clear hgg
      go_upto_region 8 with fail
      clear q0 q1 q2 q3 q4
      go_loopw [3, 5] (fun v x u => ∃ (t : Nat) (M : List B4) (pp : Option Addr) (cq : Nat), t ≤ W0 ∧ x = .int .i64 (a + (t : Int)) ∧ v = .slice pp M.length cq ∧ Hid (NX = M ++ (rowR gg W0 t).map (runOf a (b + (j : Int)))) ∧ Hid (u.ownsRow b3 60 4 (.slice pp M.length cq) M.length (rsV M)) ∧ Hid (u.heap[b1]? = some (.cells #[.int .i64 a, .int .i64 b, .int .i64 c, .int .i64 d, .slice ao n cp] 30 (0, 0))) ∧ Hid (Below w.heap.size w u)) (fun _ x _ => (c - intOf x).toNat)
      case atStart => exact ⟨0, _, pp, cq, Nat.zero_le _, by simp, rfl, hnx, O, R1, HB⟩
      case round =>
        clear O R1 HB hnx
        obtain ⟨t, M, pp, cq, ht, rfl, rfl, hM, O, R1, HB⟩ := hrel
        obtain ⟨q0, q1, q2, q3, q4⟩ := row5m (unhide R1)
        by_cases hlt' : t < W0
        · have hti : a + (t : Int) < c := by omega
          have wt : IntKind.i64.wrap (a + (t : Int) + 1) = a + (t : Int) + 1 := IntWalk.i64_in _ (by omega)
          have EL1 := hide (unhide EL (by trivial) (a + (t : Int)) (b + (j : Int)) wr (fun i hi => (unhide P i hi).next (unhide HB)))
          rw [unhide hat t hlt'] at EL1
          go_wp2_with fail
          go_fit (unhide EL1)
          rintro r w2 ⟨rfl, hb⟩
          replace R1 := hide (row_next hb (unhide R1))
          replace O := hide (own_below (unhide O) hb)
          replace HB := hide (below_two (unhide HB) hb)
          clear hb q0 q1 q2 q3 q4 EL1
          by_cases hz : gg t = 0
          · have hM2 : Hid (NX = M ++ (rowR gg W0 (t + 1)).map (runOf a (b + (j : Int)))) := by unfold Hid; rw [← rowR_zero hlt' hz]; exact unhide hM
            have hzb : (gg t == 0) = true := beq_iff_eq.2 hz
            obtain ⟨z, hzz⟩ : ∃ z, z = gg t := ⟨_, rfl⟩
            rw [← hzz] at hz hzb ⊢
            subst hz
            go_wp2_with fail
            go_roundw
            case rel => exact ⟨t + 1, M, pp, cq, by omega, congrArg (Value.int .i64) (by push_cast; omega), rfl, hM2, O, R1, HB⟩
            case measure => simp [intOf]; omega
          · have hzb : (gg t == 0) = false := beq_eq_false_iff_ne.2 hz
            obtain ⟨z, hzz⟩ : ∃ z, Hid (gg t = z) := ⟨_, rfl⟩
            rw [unhide hzz] at hz hzb ⊢
            go_upto_region 13 with fail
            go_loopw [7] (fun x u => ∃ (e : Nat), t < e ∧ e ≤ W0 ∧ x = .int .i64 (a + (e : Int)) ∧ Hid (∀ i, t ≤ i → i < e → gg i = z) ∧ Hid (u.ownsRow b3 60 4 (.slice pp M.length cq) M.length (rsV M)) ∧ Hid (u.heap[b1]? = some (.cells #[.int .i64 a, .int .i64 b, .int .i64 c, .int .i64 d, .slice ao n cp] 30 (0, 0))) ∧ Hid (Below w.heap.size w u)) (fun x _ => (c - intOf x).toNat)
            case atStart => exact ⟨t + 1, by omega, by omega, congrArg (Value.int .i64) (by push_cast; omega), fun i h1 h2 => by rw [show i = t by omega]; exact unhide hzz, O, R1, HB⟩
            case round =>
              clear O R1 HB
              obtain ⟨e, he1, he2, rfl, hE, O, R1, HB⟩ := hrel
              obtain ⟨q0, q1, q2, q3, q4⟩ := row5m (unhide R1)
              by_cases hlt2 : e < W0
              · have hei : a + (e : Int) < c := by omega
                have we : IntKind.i64.wrap (a + (e : Int) + 1) = a + (e : Int) + 1 := IntWalk.i64_in _ (by omega)
                have EL2 := hide (unhide EL (by trivial) (a + (e : Int)) (b + (j : Int)) wr (fun i hi => (unhide P i hi).next (unhide HB)))
                rw [unhide hat e hlt2] at EL2
                by_cases hgz : gg e = z
                · have hgb : (gg e == z) = true := beq_iff_eq.2 hgz
                  have hE2 : Hid (∀ i, t ≤ i → i < e + 1 → gg i = z) := fun i h1 h2 => by
                    by_cases hie : i = e
                    · rw [hie]; exact hgz
                    · exact unhide hE i h1 (by omega)
                  replace hgz := hide hgz
                  go_wp2_with fail
                  go_fit (unhide EL2)
                  rintro r w3 ⟨rfl, hb⟩
                  replace R1 := hide (row_next hb (unhide R1))
                  replace O := hide (own_below (unhide O) hb)
                  replace HB := hide (below_two (unhide HB) hb)
                  clear hb q0 q1 q2 q3 q4 EL2
                  go_wp2_with fail
                  go_roundw
                  case rel => exact ⟨e + 1, by omega, by omega, congrArg (Value.int .i64) (by push_cast; omega), hE2, O, R1, HB⟩
                  case measure => simp [intOf]; omega
                · have hgb : (gg e == z) = false := beq_eq_false_iff_ne.2 hgz
                  have hMM : Hid (NX = (M ++ [(⟨b + (j : Int), a + (t : Int), a + (e : Int), z⟩ : B4)]) ++ (rowR gg W0 e).map (runOf a (b + (j : Int)))) := by
                    unfold Hid; rw [unhide hM, rowR_run he1 he2 hz (unhide hE) (.inr hgz)]; simp [runOf]
                  replace hgz := hide hgz
                  go_wp2_with fail
                  go_fit (unhide EL2)
                  rintro r w3 ⟨rfl, hb⟩
                  replace R1 := hide (row_next hb (unhide R1))
                  replace O := hide (own_below (unhide O) hb)
                  replace HB := hide (below_two (unhide HB) hb)
                  clear hb q0 q1 q2 q3 q4 EL2
                  have hlm : Hid (M.length ≤ 1048576) := by
                    have h1 := unhide hlen
                    rw [unhide hMM] at h1
                    simp only [List.length_append, List.length_cons, List.length_nil] at h1
                    unfold Hid; omega
                  have we0 : IntKind.i64.wrap (a + (e : Int) - 1) = a + (e : Int) - 1 := IntWalk.i64_in _ (by omega)
                  have we2 : IntKind.i64.wrap (a + (e : Int)) = a + (e : Int) := IntWalk.i64_in _ (by omega)
                  have we1 : IntKind.i64.wrap (a + (e : Int) - 1 + 1) = a + (e : Int) := by rw [Int.sub_add_cancel]; exact we2
                  have hsz := hide (show b3 ≤ w3.heap.size by have h1 := heap_lt (unhide R1); rw [unhide hb1'] at h1; rw [unhide hb3]; omega)
                  go_wp2_with (at_builtin; go_must (refine wpList_append_rn w3 rfl _ _ 36 rfl b3 i1 (.agg #[.int .i64 0, .int .i64 0, .int .i64 0, .int .i64 0]) Try.underlying36 hi1 hz1 hs1 hb1 rfl _ M (by rfl) (unhide O) (b + (j : Int)) (a + (t : Int)) (a + (e : Int)) z 1 rfl (unhide hlm) (unhide hsz) ?_); intro v4 w4 hown4 hb4)
                  have R4 := hide ((hb4.block b1 (unhide lb).2).trans (unhide R1))
                  have B4 := hide ((unhide HB).trans (hb4.mono (unhide lb).1))
                  obtain ⟨pp4, cq4, rfl⟩ := own_form hown4
                  replace hown4 := hide hown4
                  clear hb4
                  go_wp2_with fail
                  go_roundw
                  case rel => exact ⟨e, _, pp4, cq4, he2, congrArg (Value.int .i64) (by omega), rfl, hMM, hown4, R4, B4⟩
                  case measure => simp [intOf]; omega
              · have hee : e = W0 := by omega
                have hei : ¬ a + (e : Int) < c := by omega
                have hMM : Hid (NX = (M ++ [(⟨b + (j : Int), a + (t : Int), a + (e : Int), z⟩ : B4)]) ++ (rowR gg W0 e).map (runOf a (b + (j : Int)))) := by
                  unfold Hid; rw [unhide hM, rowR_run he1 he2 hz (unhide hE) (.inl hee)]; simp [runOf]
                clear hee
                have hlm : Hid (M.length ≤ 1048576) := by
                  have h1 := unhide hlen
                  rw [unhide hMM] at h1
                  simp only [List.length_append, List.length_cons, List.length_nil] at h1
                  unfold Hid; omega
                have we0 : IntKind.i64.wrap (a + (e : Int) - 1) = a + (e : Int) - 1 := IntWalk.i64_in _ (by omega)
                have we2 : IntKind.i64.wrap (a + (e : Int)) = a + (e : Int) := IntWalk.i64_in _ (by omega)
                have we1 : IntKind.i64.wrap (a + (e : Int) - 1 + 1) = a + (e : Int) := by rw [Int.sub_add_cancel]; exact we2
                have hsz := hide (show b3 ≤ wr.heap.size by have h1 := heap_lt (unhide R1); rw [unhide hb1'] at h1; rw [unhide hb3]; omega)
                go_wp2_with (at_builtin; go_must (refine wpList_append_rn wr rfl _ _ 36 rfl b3 i1 (.agg #[.int .i64 0, .int .i64 0, .int .i64 0, .int .i64 0]) Try.underlying36 hi1 hz1 hs1 hb1 rfl _ M (by rfl) (unhide O) (b + (j : Int)) (a + (t : Int)) (a + (e : Int)) z 1 rfl (unhide hlm) (unhide hsz) ?_); intro v4 w4 hown4 hb4)
                have R4 := hide ((hb4.block b1 (unhide lb).2).trans (unhide R1))
                have B4 := hide ((unhide HB).trans (hb4.mono (unhide lb).1))
                obtain ⟨pp4, cq4, rfl⟩ := own_form hown4
                replace hown4 := hide hown4
                clear hb4
                go_wp2_with fail
                go_roundw
                case rel => exact ⟨e, _, pp4, cq4, he2, congrArg (Value.int .i64) (by omega), rfl, hMM, hown4, R4, B4⟩
                case measure => simp [intOf]; omega
        · have hte : t = W0 := by omega
          subst hte
          have hti : ¬ a + (t : Int) < c := by omega
          have hM2 : Hid (M = runsN a b t f (j + 1)) := by
            unfold Hid; rw [← unhide hNX, unhide hM, rowR_end (Nat.le_refl _)]; simp
          go_wp2_with fail
          go_roundw
          case rel => exact ⟨j + 1, pp, cq, by omega, congrArg (Value.int .i64) (by push_cast; omega), by rw [← unhide hM2], by rw [← unhide hM2]; exact O, R1, HB⟩
          case measure => simp [intOf]; omega
    · have hje : j = H0 := by omega
      subst hje
      have hji : ¬ b + (j : Int) < d := by omega
      go_wp2_with fail
      go_ret
      rw [unhide hL1]
      exact ⟨_, rfl, own_low (unhide O) (unhide lb).1, unhide HB⟩
end Go.Proofs.Ytmhgfikcnhoknaa
