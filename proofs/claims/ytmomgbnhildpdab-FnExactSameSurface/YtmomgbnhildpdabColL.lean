/-
  The laws' own words on lists of colours: handed over, measured, held against each other, marked and held.
-/
import Derived.Test.YtmomgbnhildpdabColRow
import Derived.Test.YtmomgbnhildpdabPathL
import Derived.Test.YtmomgbnhildpdabBoxRow
import Derived.Test.YtmomgbnhildpdabPaintL
namespace Go.Proofs.Ytmomgbnhildpdab
open Go.RowKit
set_option linter.unusedVariables false

theorem own_bxc {w : World} {base t n cap : Nat} {a : Option Addr} {xs : List Value} {G : Nat → B4} (h : w.ownsRow base t 4 (.slice a n cap) n xs) (hx : BxAt xs G n) : ∀ i, i < n → ClAt w a i (G i) := by
  intro i hi
  obtain ⟨g, c, e, _, _⟩ := own_at h (by omega)
  cases e
  obtain ⟨h0, h1, h2, h3⟩ := hx i hi
  refine ⟨g, 0, rfl, ?_, ?_, ?_, ?_⟩
  · rw [Nat.zero_add, h.cellAt _ (by omega)]; exact h0
  · rw [Nat.zero_add, h.cellAt _ (by omega)]; exact h1
  · rw [Nat.zero_add, h.cellAt _ (by omega)]; exact h2
  · rw [Nat.zero_add, h.cellAt _ (by omega)]; exact h3

theorem szColorS_any (ao : Option Addr) (n cap : Nat) (z : Int) (hz : 0 ≤ z ∧ z ≤ 1048576) (hm : n ≤ maxLen) (w : World) :
    Calls Try.prog 37 #[.slice ao n cap, .int .i64 z] w fun r w' => r = .returned (.int .i64 (if z < n then -1 else z - n)) ∧ w' = w := by
  have hw : IntKind.i64.wrap (z - (n : Int)) = z - n := IntWalk.i64_in _ (by unfold maxLen at hm; omega)
  by_cases hlt : z < n
  · have h0 : z - (n : Int) < 0 := by omega
    rw [if_pos hlt]
    go_enter Try.func37, Try.ntmps37
    go_wp2
    go_ret
    exact ⟨rfl, rfl⟩
  · have h0 : ¬ z - (n : Int) < 0 := by omega
    rw [if_neg hlt]
    go_enter Try.func37, Try.ntmps37
    go_wp2
    go_ret
    exact ⟨rfl, rfl⟩

set_option maxHeartbeats 2000000 in
theorem toColorS_own (f : Nat → B4) (ao : Option Addr) (n cap : Nat) (hn : n ≤ 1048576) (w : World) (H : ∀ i, i < n → ClAt w ao i (f i)) :
    Calls Try.prog 42 #[.slice ao n cap] w fun r w' => r = .returned (.slice (some ⟨w.heap.size, 0, none⟩) n n) ∧ (∃ xs, w'.ownsRow w.heap.size 71 4 (.slice (some ⟨w.heap.size, 0, none⟩) n n) n xs ∧ BxAt xs f n) ∧ Below w.heap.size w w' := by
  obtain ⟨i0, hi, hz0, hz1, hz2⟩ := info_parts infoColor
  have HH := hide H
  clear H
  go_enter Try.func42, Try.ntmps42
  go_wp2_with (at_make; go_must (refine wpList_make_full w rfl _ _ 26 rfl w.heap.size 71 i0 (.agg #[.int .i64 0, .int .i64 0, .int .i64 0, .int .i64 0]) 4 Try.underlying26 hi hz0 hz1 .i64 .i64 _ _ n (by rfl) (by rfl) (by omega) (by omega) (by rw [hz2]; omega) (by unfold maxLen; omega) (Nat.le_refl _) ?_); intro w1 hown1 hg1)
  have B1 : Below w.heap.size w w1 := (Below.refl _ w).grown hg1 (Nat.le_refl _) (by simp)
  clear hg1
  go_loopw [4] (fun i u => ∃ (k : Nat) (xs : List Value), k ≤ n ∧ i = .int .i64 k ∧ u.ownsRow w.heap.size 71 4 (.slice (some ⟨w.heap.size, 0, none⟩) n n) n xs ∧ Hid (BxAt xs f k) ∧ Below w.heap.size w u) (fun i _ => n - (intOf i).toNat)
  case atStart => exact ⟨0, _, Nat.zero_le _, rfl, hown1, fun j hj => absurd hj (by omega), B1⟩
  case round =>
    obtain ⟨k, xs, hk, rfl, hown, HX, hb⟩ := hrel
    clear hown1 B1
    have O := hide hown
    by_cases hlt : k < n
    · have HP := (unhide HH k hlt).next hb
      have hst := hide ((unhide HX).step (by have := hown.1; omega))
      generalize f k = p at HP hst
      obtain ⟨x, y, z, t⟩ := p
      obtain ⟨s, o, rfl, g0, g1, g2, g3⟩ := HP
      dsimp only at g0 g1 g2 g3
      have HB := hide hb
      clear hb hown
      have E := hide (toColor_any x y z t)
      go_wp2_with fail
      go_fit (unhide E _)
      rintro r w2 ⟨rfl, hb⟩
      replace O := hide (own_below (unhide O) hb)
      replace HB := hide (below_two (unhide HB) hb)
      clear hb g0 g1 g2 g3
      obtain ⟨v0, v1, v2, v3, c0, c1, c2, c3⟩ := own_cell4 (unhide O) hlt
      have f0 := (unhide O).frozenAt (k * 4)
      have f1 := (unhide O).frozenAt (k * 4 + 1)
      have f2 := (unhide O).frozenAt (k * 4 + 2)
      have f3 := (unhide O).frozenAt (k * 4 + 3)
      go_wp2_with fail
      go_roundw
      case rel => exact ⟨k + 1, _, by omega, by go_num, own_put4 (unhide O) _ _ _ _, hst, below_at4 (unhide HB) (Nat.le_refl _) _ _ _ _ _ _ _ _⟩
      case measure => simp [intOf]; omega
    · have hke : k = n := by omega
      subst hke
      have hp := hide (show ∃ xs, wr.ownsRow w.heap.size 71 4 (.slice (some ⟨w.heap.size, 0, none⟩) k k) k xs ∧ BxAt xs f k from ⟨xs, hown, unhide HX⟩)
      have HB := hide hb
      clear hb hown O HX
      go_wp2_with fail
      go_ret
      exact ⟨rfl, unhide hp, unhide HB⟩

set_option maxHeartbeats 2000000 in
theorem eqColorS_arg (f : Nat → B4) (ao bo : Option Addr) (n cap cap' : Nat) (hn : n ≤ 1048576) (w : World) (HA : ∀ i, i < n → ClAt w ao i (f i)) (HB : ∀ i, i < n → ClAt w bo i (f i)) :
    Calls Try.prog 50 #[.slice ao n cap, .slice bo n cap'] w fun r w' => r = .returned (.bool true) ∧ Below w.heap.size w w' := by
  replace HA := hide HA
  replace HB := hide HB
  go_enter Try.func50, Try.ntmps50
  go_wp2_with fail
  go_loopw [5] (fun i u => ∃ k : Nat, k ≤ n ∧ i = .int .i64 k ∧ Below w.heap.size w u) (fun i _ => n - (intOf i).toNat)
  case atStart => exact ⟨0, Nat.zero_le _, rfl, Below.refl _ _⟩
  case round =>
    obtain ⟨k, hk, rfl, hb⟩ := hrel
    by_cases hlt : k < n
    · have HP := (unhide HA k hlt).next hb
      have HQ := (unhide HB k hlt).next hb
      generalize f k = p at HP HQ
      obtain ⟨x, y, z, t⟩ := p
      obtain ⟨s, o, rfl, g0, g1, g2, g3⟩ := HP
      obtain ⟨s', o', rfl, h0, h1, h2, h3⟩ := HQ
      dsimp only at g0 g1 g2 g3 h0 h1 h2 h3
      replace hb := hide hb
      have E := hide (eqColor_same x y z t)
      go_wp2_with fail
      obtain ⟨I, F, hI, F1, F2⟩ := kept_worlds wr
      have a0 : ∀ i, (F i).cell? ⟨s, o + k * 4, none⟩ = some (.int .i64 x) := fun i => kc (F2 i) g0
      have a1 : ∀ i, (F i).cell? ⟨s, o + k * 4 + 1, none⟩ = some (.int .i64 y) := fun i => kc (F2 i) g1
      have a2 : ∀ i, (F i).cell? ⟨s, o + k * 4 + 2, none⟩ = some (.int .i64 z) := fun i => kc (F2 i) g2
      have a3 : ∀ i, (F i).cell? ⟨s, o + k * 4 + 3, none⟩ = some (.int .i64 t) := fun i => kc (F2 i) g3
      have b0 : ∀ i, (F i).cell? ⟨s', o' + k * 4, none⟩ = some (.int .i64 x) := fun i => kc (F2 i) h0
      have b1 : ∀ i, (F i).cell? ⟨s', o' + k * 4 + 1, none⟩ = some (.int .i64 y) := fun i => kc (F2 i) h1
      have b2 : ∀ i, (F i).cell? ⟨s', o' + k * 4 + 2, none⟩ = some (.int .i64 z) := fun i => kc (F2 i) h2
      have b3 : ∀ i, (F i).cell? ⟨s', o' + k * 4 + 3, none⟩ = some (.int .i64 t) := fun i => kc (F2 i) h3
      clear g0 g1 g2 g3 h0 h1 h2 h3
      replace F1 := hide F1
      replace F2 := hide F2
      refine wp_region_quiet_in (unhide F1) (by kernel_rfl) (by kernel_rfl) ?_
      repeat (go_big_quiet_step (with_reducible exact quiet_in (unhide F1) (unhide F2) (unhide E _)))
      refine wpQuiet_nil ?_
      rintro _ ⟨i, rfl⟩
      have hF := unhide F2 i
      clear F1 a0 a1 a2 a3 b0 b1 b2 b3
      go_wp2_with fail
      go_roundw
      case rel => exact ⟨k + 1, by omega, by go_num, below_two (unhide hb) hF⟩
      case measure => simp [intOf]; omega
    · have hke : k = n := by omega
      subst hke
      go_wp2_with fail
      go_ret
      exact ⟨rfl, hb⟩

set_option maxHeartbeats 2000000 in
theorem markColorS_any (v : Value) (base n k : Nat) (xs : List Value) (hk : k ≤ 10000000) (hn : n ≤ 1048576) (w : World) (hv : w.ownsRow base 71 4 v n xs) :
    Calls Try.prog 51 #[v, .int .i64 k] w fun r w' => r = .returned (.int .i64 ((k + n * 4 : Nat) : Int)) ∧ (∃ ys, w'.ownsRow base 71 4 v n ys ∧ Ramp ys k (n * 4)) ∧ w.grownBy w' v.ownBlock := by
  obtain ⟨p, cap, rfl⟩ := own_form hv
  have hp := fun h => own_at hv h
  have HV := hide hv
  clear hv
  go_enter Try.func51, Try.ntmps51
  go_wp2
  go_loopw [1, 5] (fun t i wr => ∃ (j : Nat) (ys : List Value), j ≤ n ∧ i = .int .i64 j ∧ t = .int .i64 ((k + j * 4 : Nat) : Int) ∧ wr.ownsRow base 71 4 (.slice p n cap) n ys ∧ Hid (Ramp ys k (j * 4)) ∧ w.grownBy wr (Value.slice p n cap).ownBlock) (fun _ i _ => n - (intOf i).toNat)
  case atStart => exact ⟨0, _, Nat.zero_le _, rfl, rfl, unhide HV, fun j hj => absurd hj (by omega), World.grownBy.refl _ _⟩
  case round =>
    obtain ⟨j, ys, hj, rfl, rfl, hown, HR, hgr⟩ := hrel
    have HO := hide hown
    have HG := hide hgr
    by_cases hlt : j < n
    · obtain ⟨g, cap', e, _, _⟩ := hp (by omega)
      cases e
      have hlen : j * 4 + 3 < ys.length := by have := hown.1; omega
      have c0 : wr.cell? ⟨g, j * 4, none⟩ = some ys[j * 4] := by rw [hown.cellAt _ (by omega)]; exact List.getElem?_eq_getElem _
      have f0 := hown.frozenAt (j * 4)
      have o1 := (hown.stored (j * 4) (.int .i64 ((k + j * 4 : Nat) : Int))).1
      have c1 : (wr.setCell ⟨g, j * 4, none⟩ (.int .i64 ((k + j * 4 : Nat) : Int))).cell? ⟨g, j * 4 + 1, none⟩ = some ys[j * 4 + 1] := by rw [o1.cellAt _ (by omega), List.getElem?_set_ne (by omega)]; exact List.getElem?_eq_getElem _
      have f1 := o1.frozenAt (j * 4 + 1)
      have o2 := (o1.stored (j * 4 + 1) (.int .i64 (((k + j * 4 : Nat) : Int) + 1))).1
      have c2 : ((wr.setCell ⟨g, j * 4, none⟩ (.int .i64 ((k + j * 4 : Nat) : Int))).setCell ⟨g, j * 4 + 1, none⟩ (.int .i64 (((k + j * 4 : Nat) : Int) + 1))).cell? ⟨g, j * 4 + 2, none⟩ = some ys[j * 4 + 2] := by rw [o2.cellAt _ (by omega), List.getElem?_set_ne (by omega), List.getElem?_set_ne (by omega)]; exact List.getElem?_eq_getElem _
      have f2 := o2.frozenAt (j * 4 + 2)
      have o3 := (o2.stored (j * 4 + 2) (.int .i64 (((k + j * 4 : Nat) : Int) + 1 + 1))).1
      have c3 : (((wr.setCell ⟨g, j * 4, none⟩ (.int .i64 ((k + j * 4 : Nat) : Int))).setCell ⟨g, j * 4 + 1, none⟩ (.int .i64 (((k + j * 4 : Nat) : Int) + 1))).setCell ⟨g, j * 4 + 2, none⟩ (.int .i64 (((k + j * 4 : Nat) : Int) + 1 + 1))).cell? ⟨g, j * 4 + 3, none⟩ = some ys[j * 4 + 3] := by rw [o3.cellAt _ (by omega), List.getElem?_set_ne (by omega), List.getElem?_set_ne (by omega), List.getElem?_set_ne (by omega)]; exact List.getElem?_eq_getElem _
      have f3 := o3.frozenAt (j * 4 + 3)
      have O3 := hide o3
      have hst := hide (((((unhide HR).step (by omega)).step (by rw [List.length_set]; omega)).step (by rw [List.length_set, List.length_set]; omega)).step (by rw [List.length_set, List.length_set, List.length_set]; exact hlen))
      have G3 := hide (grown_trans (grown_trans (grown_trans hgr (hown.stored (j * 4) (.int .i64 ((k + j * 4 : Nat) : Int))).2) (o1.stored (j * 4 + 1) (.int .i64 (((k + j * 4 : Nat) : Int) + 1))).2) (o2.stored (j * 4 + 2) (.int .i64 (((k + j * 4 : Nat) : Int) + 1 + 1))).2)
      have e1 : ((k + (j * 4 + 1) : Nat) : Int) = ((k + j * 4 : Nat) : Int) + 1 := by omega
      have e2 : ((k + (j * 4 + 1 + 1) : Nat) : Int) = ((k + j * 4 : Nat) : Int) + 1 + 1 := by omega
      have e3 : ((k + (j * 4 + 1 + 1 + 1) : Nat) : Int) = ((k + j * 4 : Nat) : Int) + 1 + 1 + 1 := by omega
      rw [e1, e2, e3] at hst
      change Hid (Ramp ((((ys.set (j * 4) (.int .i64 ((k + j * 4 : Nat) : Int))).set (j * 4 + 1) (.int .i64 (((k + j * 4 : Nat) : Int) + 1))).set (j * 4 + 2) (.int .i64 (((k + j * 4 : Nat) : Int) + 1 + 1))).set (j * 4 + 3) (.int .i64 (((k + j * 4 : Nat) : Int) + 1 + 1 + 1))) k (j * 4 + 4)) at hst
      clear hown hgr o1 o2 o3 e1 e2 e3
      generalize hq : ((k + j * 4 : Nat) : Int) = q at c1 f1 c2 f2 c3 f3 O3 hst G3 ⊢
      have hq0 : 0 ≤ q ∧ q ≤ 4100000000000000000 := by omega
      have hw1 : IntKind.i64.wrap (q + 1) = q + 1 := IntWalk.i64_in _ (by omega)
      have hw2 : IntKind.i64.wrap (q + 1 + 1) = q + 1 + 1 := IntWalk.i64_in _ (by omega)
      have hw3 : IntKind.i64.wrap (q + 1 + 1 + 1) = q + 1 + 1 + 1 := IntWalk.i64_in _ (by omega)
      have hw4 : IntKind.i64.wrap (q + 1 + 1 + 1 + 1) = q + 1 + 1 + 1 + 1 := IntWalk.i64_in _ (by omega)
      replace hq := hide hq
      go_wp2_with fail
      go_roundw
      case rel => exact ⟨j + 1, _, by omega, by go_num, by rw [← unhide hq]; go_num, ((unhide O3).stored (j * 4 + 3) _).1, by have := unhide hst; rw [show (j + 1) * 4 = j * 4 + 4 by omega]; exact this, grown_trans (unhide G3) ((unhide O3).stored (j * 4 + 3) _).2⟩
      case measure => simp [intOf]; omega
    · have hje : j = n := by omega
      subst hje
      clear hown hgr
      go_wp2
      go_ret
      exact ⟨rfl, ⟨ys, unhide HO, unhide HR⟩, unhide HG⟩

set_option maxHeartbeats 2000000 in
theorem heldColorS_yes (v : Value) (base n k : Nat) (ys : List Value) (hk : k ≤ 10000000) (hn : n ≤ 1048576) (w : World) (hv : w.ownsRow base 71 4 v n ys) (hr : Ramp ys k (n * 4)) :
    Calls Try.prog 52 #[v, .int .i64 k] w fun r w' => r = .returned (.int .i64 ((k + n * 4 : Nat) : Int)) ∧ w' = w := by
  obtain ⟨p, cap, rfl⟩ := own_form hv
  have hp := fun h => own_at hv h
  replace hv := hide hv
  replace hr := hide hr
  go_enter Try.func52, Try.ntmps52
  go_wp2
  go_loopw [1, 5] (fun t i wr => ∃ j : Nat, j ≤ n ∧ i = .int .i64 j ∧ t = .int .i64 ((k + j * 4 : Nat) : Int) ∧ wr = w) (fun _ i _ => n - (intOf i).toNat)
  case atStart => exact ⟨0, Nat.zero_le _, rfl, rfl, rfl⟩
  case round =>
    obtain ⟨j, hj, rfl, rfl, rfl⟩ := hrel
    by_cases hlt : j < n
    · obtain ⟨g, cap', e, _, _⟩ := hp (by omega)
      cases e
      have c0 : wr.cell? ⟨g, j * 4, none⟩ = some (.int .i64 ((k + j * 4 : Nat) : Int)) := by rw [(unhide hv).cellAt _ (by omega)]; exact unhide hr _ (by omega)
      have c1 : wr.cell? ⟨g, j * 4 + 1, none⟩ = some (.int .i64 (((k + j * 4 : Nat) : Int) + 1)) := by rw [(unhide hv).cellAt _ (by omega), unhide hr _ (by omega)]; congr 2
      have c2 : wr.cell? ⟨g, j * 4 + 2, none⟩ = some (.int .i64 (((k + j * 4 : Nat) : Int) + 1 + 1)) := by rw [(unhide hv).cellAt _ (by omega), unhide hr _ (by omega)]; exact congrArg (fun z => some (Value.int .i64 z)) (by omega)
      have c3 : wr.cell? ⟨g, j * 4 + 3, none⟩ = some (.int .i64 (((k + j * 4 : Nat) : Int) + 1 + 1 + 1)) := by rw [(unhide hv).cellAt _ (by omega), unhide hr _ (by omega)]; exact congrArg (fun z => some (Value.int .i64 z)) (by omega)
      generalize hq : ((k + j * 4 : Nat) : Int) = q at c0 c1 c2 c3 ⊢
      have hq0 : 0 ≤ q ∧ q ≤ 4100000000000000000 := by omega
      have hw1 : IntKind.i64.wrap (q + 1) = q + 1 := IntWalk.i64_in _ (by omega)
      have hw2 : IntKind.i64.wrap (q + 1 + 1) = q + 1 + 1 := IntWalk.i64_in _ (by omega)
      have hw3 : IntKind.i64.wrap (q + 1 + 1 + 1) = q + 1 + 1 + 1 := IntWalk.i64_in _ (by omega)
      have hw4 : IntKind.i64.wrap (q + 1 + 1 + 1 + 1) = q + 1 + 1 + 1 + 1 := IntWalk.i64_in _ (by omega)
      replace hq := hide hq
      go_wp2_with fail
      go_roundw
      case rel => exact ⟨j + 1, by omega, by go_num, by rw [← unhide hq]; go_num, by trivial⟩
      case measure => simp [intOf]; omega
    · have hje : j = n := by omega
      subst hje
      go_wp2
      go_ret
      exact ⟨rfl, rfl⟩
end Go.Proofs.Ytmomgbnhildpdab
