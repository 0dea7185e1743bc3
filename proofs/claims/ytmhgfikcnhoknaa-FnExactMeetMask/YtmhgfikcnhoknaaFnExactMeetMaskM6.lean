/-
  RunL · MaskY · WindA · WindI · WindJ · MaskK · MeetI · MeetK: texts of one claim, in one.
-/
import Derived.Test.YtmhgfikcnhoknaaFnExactMeetMaskM5
import Derived.Test.YtmhgfikcnhoknaaFnExactMeetMaskM2
import Derived.Test.YtmhgfikcnhoknaaFnExactMeetMaskM3
import Derived.Test.YtmhgfikcnhoknaaFnExactMeetMaskM1
import Derived.Test.YtmhgfikcnhoknaaFnExactMeetMaskM4
import Derived.Lib.MinMax
import Derived.Laws.CopyOwn

/-
  The laws' own words on lists of runs: handed over, measured, held against each other, marked and held.
-/
namespace Go.Proofs.Ytmhgfikcnhoknaa
open Go.RowKit
set_option linter.unusedVariables false

theorem own_bxa {w : World} {base t n cap : Nat} {a : Option Addr} {xs : List Value} {G : Nat → B4} (h : w.ownsRow base t 4 (.slice a n cap) n xs) (hx : BxAt xs G n) : ∀ i, i < n → RnAt w a i (G i) := by
  intro i hi
  obtain ⟨g, c, e, _, _⟩ := own_at h (by omega)
  cases e
  obtain ⟨h0, h1, h2, h3⟩ := hx i hi
  refine ⟨g, 0, rfl, ?_, ?_, ?_, ?_⟩
  · rw [Nat.zero_add, h.cellAt _ (by omega)]; exact h0
  · rw [Nat.zero_add, h.cellAt _ (by omega)]; exact h1
  · rw [Nat.zero_add, h.cellAt _ (by omega)]; exact h2
  · rw [Nat.zero_add, h.cellAt _ (by omega)]; exact h3

theorem szRunS_any (ao : Option Addr) (n cap : Nat) (z : Int) (hz : 0 ≤ z ∧ z ≤ 1048576) (hm : n ≤ maxLen) (w : World) :
    Calls Try.prog 18 #[.slice ao n cap, .int .i64 z] w fun r w' => r = .returned (.int .i64 (if z < n then -1 else z - n)) ∧ w' = w := by
  have hw : IntKind.i64.wrap (z - (n : Int)) = z - n := IntWalk.i64_in _ (by unfold maxLen at hm; omega)
  by_cases hlt : z < n
  · have h0 : z - (n : Int) < 0 := by omega
    rw [if_pos hlt]
    go_enter Try.func18, Try.ntmps18
    go_wp2
    go_ret
    exact ⟨rfl, rfl⟩
  · have h0 : ¬ z - (n : Int) < 0 := by omega
    rw [if_neg hlt]
    go_enter Try.func18, Try.ntmps18
    go_wp2
    go_ret
    exact ⟨rfl, rfl⟩

set_option maxHeartbeats 1000000 in
theorem toRun_any (a b c d : Int) (w : World) :
    Calls Try.prog 42 #[.agg #[.int .i64 a, .int .i64 b, .int .i64 c, .int .i64 d]] w fun r w' => r = .returned (.agg #[.int .i64 a, .int .i64 b, .int .i64 c, .int .i64 d]) ∧ Below w.heap.size w w' := by
  go_enter Try.func42, Try.ntmps42
  go_wp2
  refine bodyPost_ret (v := .agg #[.int .i64 a, .int .i64 b, .int .i64 c, .int .i64 d]) (by simp [results, Try.results42, go_sem]) rfl ⟨rfl, ?_⟩
  exact al3_below _ _ _ _

set_option maxHeartbeats 1000000 in
theorem eqRun_same (a b c d : Int) (w : World) :
    Calls Try.prog 39 #[.agg #[.int .i64 a, .int .i64 b, .int .i64 c, .int .i64 d], .agg #[.int .i64 a, .int .i64 b, .int .i64 c, .int .i64 d]] w fun r w' => r = .returned (.bool true) ∧ Below w.heap.size w w' := by
  go_enter Try.func39, Try.ntmps39
  go_wp2
  go_ret
  exact ⟨rfl, al2_below _ _ _⟩

set_option maxHeartbeats 2000000 in
theorem toRunS_own (f : Nat → B4) (ao : Option Addr) (n cap : Nat) (hn : n ≤ 1048576) (w : World) (H : ∀ i, i < n → RnAt w ao i (f i)) :
    Calls Try.prog 21 #[.slice ao n cap] w fun r w' => r = .returned (.slice (some ⟨w.heap.size, 0, none⟩) n n) ∧ (∃ xs, w'.ownsRow w.heap.size 60 4 (.slice (some ⟨w.heap.size, 0, none⟩) n n) n xs ∧ BxAt xs f n) ∧ Below w.heap.size w w' := by
  obtain ⟨i0, hi, hz0, hz1, hz2⟩ := info_parts infoRun
  have HH := hide H
  clear H
  go_enter Try.func21, Try.ntmps21
  go_wp2_with (at_make; go_must (refine wpList_make_full w rfl _ _ 36 rfl w.heap.size 60 i0 (.agg #[.int .i64 0, .int .i64 0, .int .i64 0, .int .i64 0]) 4 Try.underlying36 hi hz0 hz1 .i64 .i64 _ _ n (by rfl) (by rfl) (by omega) (by omega) (by rw [hz2]; omega) (by unfold maxLen; omega) (Nat.le_refl _) ?_); intro w1 hown1 hg1)
  have B1 : Below w.heap.size w w1 := (Below.refl _ w).grown hg1 (Nat.le_refl _) (by simp)
  clear hg1
  go_loopw [4] (fun i u => ∃ (k : Nat) (xs : List Value), k ≤ n ∧ i = .int .i64 k ∧ u.ownsRow w.heap.size 60 4 (.slice (some ⟨w.heap.size, 0, none⟩) n n) n xs ∧ Hid (BxAt xs f k) ∧ Below w.heap.size w u) (fun i _ => n - (intOf i).toNat)
  case atStart => exact ⟨0, _, Nat.zero_le _, rfl, hown1, fun j hj => absurd hj (by omega), B1⟩
  case round =>
    obtain ⟨k, xs, hk, rfl, hown, HX, hb⟩ := hrel
    clear hown1 B1
    have O := hide hown
    by_cases hlt : k < n
    · have HP := (unhide HH k hlt).next hb
      have hst := hide ((unhide HX).step (by have := hown.1; omega))
      generalize f k = p at HP hst
      obtain ⟨x, y, z, t⟩ := p
      obtain ⟨s, o, rfl, g0, g1, g2, g3⟩ := HP
      dsimp only at g0 g1 g2 g3
      have HB := hide hb
      clear hb hown
      have E := hide (toRun_any x y z t)
      go_wp2_with fail
      go_fit (unhide E _)
      rintro r w2 ⟨rfl, hb⟩
      replace O := hide (own_below (unhide O) hb)
      replace HB := hide (below_two (unhide HB) hb)
      clear hb g0 g1 g2 g3
      obtain ⟨v0, v1, v2, v3, c0, c1, c2, c3⟩ := own_cell4 (unhide O) hlt
      have f0 := (unhide O).frozenAt (k * 4)
      have f1 := (unhide O).frozenAt (k * 4 + 1)
      have f2 := (unhide O).frozenAt (k * 4 + 2)
      have f3 := (unhide O).frozenAt (k * 4 + 3)
      go_wp2_with fail
      go_roundw
      case rel => exact ⟨k + 1, _, by omega, by go_num, own_put4 (unhide O) _ _ _ _, hst, below_at4 (unhide HB) (Nat.le_refl _) _ _ _ _ _ _ _ _⟩
      case measure => simp [intOf]; omega
    · have hke : k = n := by omega
      subst hke
      have hp := hide (show ∃ xs, wr.ownsRow w.heap.size 60 4 (.slice (some ⟨w.heap.size, 0, none⟩) k k) k xs ∧ BxAt xs f k from ⟨xs, hown, unhide HX⟩)
      have HB := hide hb
      clear hb hown O HX
      go_wp2_with fail
      go_ret
      exact ⟨rfl, unhide hp, unhide HB⟩

set_option maxHeartbeats 2000000 in
theorem eqRunS_arg (f : Nat → B4) (ao bo : Option Addr) (n cap cap' : Nat) (hn : n ≤ 1048576) (w : World) (HA : ∀ i, i < n → RnAt w ao i (f i)) (HB : ∀ i, i < n → RnAt w bo i (f i)) :
    Calls Try.prog 15 #[.slice ao n cap, .slice bo n cap'] w fun r w' => r = .returned (.bool true) ∧ Below w.heap.size w w' := by
  replace HA := hide HA
  replace HB := hide HB
  go_enter Try.func15, Try.ntmps15
  go_wp2_with fail
  go_loopw [5] (fun i u => ∃ k : Nat, k ≤ n ∧ i = .int .i64 k ∧ Below w.heap.size w u) (fun i _ => n - (intOf i).toNat)
  case atStart => exact ⟨0, Nat.zero_le _, rfl, Below.refl _ _⟩
  case round =>
    obtain ⟨k, hk, rfl, hb⟩ := hrel
    by_cases hlt : k < n
    · have HP := (unhide HA k hlt).next hb
      have HQ := (unhide HB k hlt).next hb
      generalize f k = p at HP HQ
      obtain ⟨x, y, z, t⟩ := p
      obtain ⟨s, o, rfl, g0, g1, g2, g3⟩ := HP
      obtain ⟨s', o', rfl, h0, h1, h2, h3⟩ := HQ
      dsimp only at g0 g1 g2 g3 h0 h1 h2 h3
      replace hb := hide hb
      have E := hide (eqRun_same x y z t)
      go_wp2_with fail
      obtain ⟨I, F, hI, F1, F2⟩ := kept_worlds wr
      have a0 : ∀ i, (F i).cell? ⟨s, o + k * 4, none⟩ = some (.int .i64 x) := fun i => kc (F2 i) g0
      have a1 : ∀ i, (F i).cell? ⟨s, o + k * 4 + 1, none⟩ = some (.int .i64 y) := fun i => kc (F2 i) g1
      have a2 : ∀ i, (F i).cell? ⟨s, o + k * 4 + 2, none⟩ = some (.int .i64 z) := fun i => kc (F2 i) g2
      have a3 : ∀ i, (F i).cell? ⟨s, o + k * 4 + 3, none⟩ = some (.int .i64 t) := fun i => kc (F2 i) g3
      have b0 : ∀ i, (F i).cell? ⟨s', o' + k * 4, none⟩ = some (.int .i64 x) := fun i => kc (F2 i) h0
      have b1 : ∀ i, (F i).cell? ⟨s', o' + k * 4 + 1, none⟩ = some (.int .i64 y) := fun i => kc (F2 i) h1
      have b2 : ∀ i, (F i).cell? ⟨s', o' + k * 4 + 2, none⟩ = some (.int .i64 z) := fun i => kc (F2 i) h2
      have b3 : ∀ i, (F i).cell? ⟨s', o' + k * 4 + 3, none⟩ = some (.int .i64 t) := fun i => kc (F2 i) h3
      clear g0 g1 g2 g3 h0 h1 h2 h3
      replace F1 := hide F1
      replace F2 := hide F2
      refine wp_region_quiet_in (unhide F1) (by kernel_rfl) (by kernel_rfl) ?_
      repeat (go_big_quiet_step (with_reducible exact quiet_in (unhide F1) (unhide F2) (unhide E _)))
      refine wpQuiet_nil ?_
      rintro _ ⟨i, rfl⟩
      have hF := unhide F2 i
      clear F1 a0 a1 a2 a3 b0 b1 b2 b3
      go_wp2_with fail
      go_roundw
      case rel => exact ⟨k + 1, by omega, by go_num, below_two (unhide hb) hF⟩
      case measure => simp [intOf]; omega
    · have hke : k = n := by omega
      subst hke
      go_wp2_with fail
      go_ret
      exact ⟨rfl, hb⟩

set_option maxHeartbeats 2000000 in
theorem markRunS_any (v : Value) (base n k : Nat) (xs : List Value) (hk : k ≤ 10000000) (hn : n ≤ 1048576) (w : World) (hv : w.ownsRow base 60 4 v n xs) :
    Calls Try.prog 16 #[v, .int .i64 k] w fun r w' => r = .returned (.int .i64 ((k + n * 4 : Nat) : Int)) ∧ (∃ ys, w'.ownsRow base 60 4 v n ys ∧ Ramp ys k (n * 4)) ∧ w.grownBy w' v.ownBlock := by
  obtain ⟨p, cap, rfl⟩ := own_form hv
  have hp := fun h => own_at hv h
  have HV := hide hv
  clear hv
  go_enter Try.func16, Try.ntmps16
  go_wp2
  go_loopw [1, 5] (fun t i wr => ∃ (j : Nat) (ys : List Value), j ≤ n ∧ i = .int .i64 j ∧ t = .int .i64 ((k + j * 4 : Nat) : Int) ∧ wr.ownsRow base 60 4 (.slice p n cap) n ys ∧ Hid (Ramp ys k (j * 4)) ∧ w.grownBy wr (Value.slice p n cap).ownBlock) (fun _ i _ => n - (intOf i).toNat)
  case atStart => exact ⟨0, _, Nat.zero_le _, rfl, rfl, unhide HV, fun j hj => absurd hj (by omega), World.grownBy.refl _ _⟩
  case round =>
    obtain ⟨j, ys, hj, rfl, rfl, hown, HR, hgr⟩ := hrel
    have HO := hide hown
    have HG := hide hgr
    by_cases hlt : j < n
    · obtain ⟨g, cap', e, _, _⟩ := hp (by omega)
      cases e
      have hlen : j * 4 + 3 < ys.length := by have := hown.1; omega
      have c0 : wr.cell? ⟨g, j * 4, none⟩ = some ys[j * 4] := by rw [hown.cellAt _ (by omega)]; exact List.getElem?_eq_getElem _
      have f0 := hown.frozenAt (j * 4)
      have o1 := (hown.stored (j * 4) (.int .i64 ((k + j * 4 : Nat) : Int))).1
      have c1 : (wr.setCell ⟨g, j * 4, none⟩ (.int .i64 ((k + j * 4 : Nat) : Int))).cell? ⟨g, j * 4 + 1, none⟩ = some ys[j * 4 + 1] := by rw [o1.cellAt _ (by omega), List.getElem?_set_ne (by omega)]; exact List.getElem?_eq_getElem _
      have f1 := o1.frozenAt (j * 4 + 1)
      have o2 := (o1.stored (j * 4 + 1) (.int .i64 (((k + j * 4 : Nat) : Int) + 1))).1
      have c2 : ((wr.setCell ⟨g, j * 4, none⟩ (.int .i64 ((k + j * 4 : Nat) : Int))).setCell ⟨g, j * 4 + 1, none⟩ (.int .i64 (((k + j * 4 : Nat) : Int) + 1))).cell? ⟨g, j * 4 + 2, none⟩ = some ys[j * 4 + 2] := by rw [o2.cellAt _ (by omega), List.getElem?_set_ne (by omega), List.getElem?_set_ne (by omega)]; exact List.getElem?_eq_getElem _
      have f2 := o2.frozenAt (j * 4 + 2)
      have o3 := (o2.stored (j * 4 + 2) (.int .i64 (((k + j * 4 : Nat) : Int) + 1 + 1))).1
      have c3 : (((wr.setCell ⟨g, j * 4, none⟩ (.int .i64 ((k + j * 4 : Nat) : Int))).setCell ⟨g, j * 4 + 1, none⟩ (.int .i64 (((k + j * 4 : Nat) : Int) + 1))).setCell ⟨g, j * 4 + 2, none⟩ (.int .i64 (((k + j * 4 : Nat) : Int) + 1 + 1))).cell? ⟨g, j * 4 + 3, none⟩ = some ys[j * 4 + 3] := by rw [o3.cellAt _ (by omega), List.getElem?_set_ne (by omega), List.getElem?_set_ne (by omega), List.getElem?_set_ne (by omega)]; exact List.getElem?_eq_getElem _
      have f3 := o3.frozenAt (j * 4 + 3)
      have O3 := hide o3
      have hst := hide (((((unhide HR).step (by omega)).step (by rw [List.length_set]; omega)).step (by rw [List.length_set, List.length_set]; omega)).step (by rw [List.length_set, List.length_set, List.length_set]; exact hlen))
      have G3 := hide (grown_trans (grown_trans (grown_trans hgr (hown.stored (j * 4) (.int .i64 ((k + j * 4 : Nat) : Int))).2) (o1.stored (j * 4 + 1) (.int .i64 (((k + j * 4 : Nat) : Int) + 1))).2) (o2.stored (j * 4 + 2) (.int .i64 (((k + j * 4 : Nat) : Int) + 1 + 1))).2)
      have e1 : ((k + (j * 4 + 1) : Nat) : Int) = ((k + j * 4 : Nat) : Int) + 1 := by omega
      have e2 : ((k + (j * 4 + 1 + 1) : Nat) : Int) = ((k + j * 4 : Nat) : Int) + 1 + 1 := by omega
      have e3 : ((k + (j * 4 + 1 + 1 + 1) : Nat) : Int) = ((k + j * 4 : Nat) : Int) + 1 + 1 + 1 := by omega
      rw [e1, e2, e3] at hst
      change Hid (Ramp ((((ys.set (j * 4) (.int .i64 ((k + j * 4 : Nat) : Int))).set (j * 4 + 1) (.int .i64 (((k + j * 4 : Nat) : Int) + 1))).set (j * 4 + 2) (.int .i64 (((k + j * 4 : Nat) : Int) + 1 + 1))).set (j * 4 + 3) (.int .i64 (((k + j * 4 : Nat) : Int) + 1 + 1 + 1))) k (j * 4 + 4)) at hst
      clear hown hgr o1 o2 o3 e1 e2 e3
      generalize hq : ((k + j * 4 : Nat) : Int) = q at c1 f1 c2 f2 c3 f3 O3 hst G3 ⊢
      have hq0 : 0 ≤ q ∧ q ≤ 4100000000000000000 := by omega
      have hw1 : IntKind.i64.wrap (q + 1) = q + 1 := IntWalk.i64_in _ (by omega)
      have hw2 : IntKind.i64.wrap (q + 1 + 1) = q + 1 + 1 := IntWalk.i64_in _ (by omega)
      have hw3 : IntKind.i64.wrap (q + 1 + 1 + 1) = q + 1 + 1 + 1 := IntWalk.i64_in _ (by omega)
      have hw4 : IntKind.i64.wrap (q + 1 + 1 + 1 + 1) = q + 1 + 1 + 1 + 1 := IntWalk.i64_in _ (by omega)
      replace hq := hide hq
      go_wp2_with fail
      go_roundw
      case rel => exact ⟨j + 1, _, by omega, by go_num, by rw [← unhide hq]; go_num, ((unhide O3).stored (j * 4 + 3) _).1, by have := unhide hst; rw [show (j + 1) * 4 = j * 4 + 4 by omega]; exact this, grown_trans (unhide G3) ((unhide O3).stored (j * 4 + 3) _).2⟩
      case measure => simp [intOf]; omega
    · have hje : j = n := by omega
      subst hje
      clear hown hgr
      go_wp2
      go_ret
      exact ⟨rfl, ⟨ys, unhide HO, unhide HR⟩, unhide HG⟩

set_option maxHeartbeats 2000000 in
theorem heldRunS_yes (v : Value) (base n k : Nat) (ys : List Value) (hk : k ≤ 10000000) (hn : n ≤ 1048576) (w : World) (hv : w.ownsRow base 60 4 v n ys) (hr : Ramp ys k (n * 4)) :
    Calls Try.prog 17 #[v, .int .i64 k] w fun r w' => r = .returned (.int .i64 ((k + n * 4 : Nat) : Int)) ∧ w' = w := by
  obtain ⟨p, cap, rfl⟩ := own_form hv
  have hp := fun h => own_at hv h
  replace hv := hide hv
  replace hr := hide hr
  go_enter Try.func17, Try.ntmps17
  go_wp2
  go_loopw [1, 5] (fun t i wr => ∃ j : Nat, j ≤ n ∧ i = .int .i64 j ∧ t = .int .i64 ((k + j * 4 : Nat) : Int) ∧ wr = w) (fun _ i _ => n - (intOf i).toNat)
  case atStart => exact ⟨0, Nat.zero_le _, rfl, rfl, rfl⟩
  case round =>
    obtain ⟨j, hj, rfl, rfl, rfl⟩ := hrel
    by_cases hlt : j < n
    · obtain ⟨g, cap', e, _, _⟩ := hp (by omega)
      cases e
      have c0 : wr.cell? ⟨g, j * 4, none⟩ = some (.int .i64 ((k + j * 4 : Nat) : Int)) := by rw [(unhide hv).cellAt _ (by omega)]; exact unhide hr _ (by omega)
      have c1 : wr.cell? ⟨g, j * 4 + 1, none⟩ = some (.int .i64 (((k + j * 4 : Nat) : Int) + 1)) := by rw [(unhide hv).cellAt _ (by omega), unhide hr _ (by omega)]; congr 2
      have c2 : wr.cell? ⟨g, j * 4 + 2, none⟩ = some (.int .i64 (((k + j * 4 : Nat) : Int) + 1 + 1)) := by rw [(unhide hv).cellAt _ (by omega), unhide hr _ (by omega)]; exact congrArg (fun z => some (Value.int .i64 z)) (by omega)
      have c3 : wr.cell? ⟨g, j * 4 + 3, none⟩ = some (.int .i64 (((k + j * 4 : Nat) : Int) + 1 + 1 + 1)) := by rw [(unhide hv).cellAt _ (by omega), unhide hr _ (by omega)]; exact congrArg (fun z => some (Value.int .i64 z)) (by omega)
      generalize hq : ((k + j * 4 : Nat) : Int) = q at c0 c1 c2 c3 ⊢
      have hq0 : 0 ≤ q ∧ q ≤ 4100000000000000000 := by omega
      have hw1 : IntKind.i64.wrap (q + 1) = q + 1 := IntWalk.i64_in _ (by omega)
      have hw2 : IntKind.i64.wrap (q + 1 + 1) = q + 1 + 1 := IntWalk.i64_in _ (by omega)
      have hw3 : IntKind.i64.wrap (q + 1 + 1 + 1) = q + 1 + 1 + 1 := IntWalk.i64_in _ (by omega)
      have hw4 : IntKind.i64.wrap (q + 1 + 1 + 1 + 1) = q + 1 + 1 + 1 + 1 := IntWalk.i64_in _ (by omega)
      replace hq := hide hq
      go_wp2_with fail
      go_roundw
      case rel => exact ⟨j + 1, by omega, by go_num, by rw [← unhide hq]; go_num, by trivial⟩
      case measure => simp [intOf]; omega
    · have hje : j = n := by omega
      subst hje
      go_wp2
      go_ret
      exact ⟨rfl, rfl⟩
end Go.Proofs.Ytmhgfikcnhoknaa

/-
  The specification's MaskBy. (By maskby.py.)
-/
namespace Go.Proofs.Ytmhgfikcnhoknaa
open Go.RowKit
set_option linter.unusedVariables false

/-- A mask of its own and whether there is one. -/
def ByRes (w : World) (r : Ending) (w' : World) (ok : Bool) (a b c d : Int) (N : Nat) (f : Nat → Int) : Prop :=
  ∃ p cp, r = .returned (.tuple #[.agg #[.int .i64 (boxV ok a), .int .i64 (boxV ok b), .int .i64 (boxV ok c), .int .i64 (boxV ok d), .slice p (boxK ok N) cp], .bool ok]) ∧ IntsV w' w.heap.size (.slice p (boxK ok N) cp) (boxK ok N) f ∧ Below w.heap.size w w'
theorem by_none {w w' : World} {a b c d : Int} {N : Nat} {f : Nat → Int} (hb : Below w.heap.size w w') : ByRes w (.returned (.tuple #[.agg #[.int .i64 0, .int .i64 0, .int .i64 0, .int .i64 0, .slice none 0 0], .bool false])) w' false a b c d N f :=
  ⟨none, 0, rfl, ⟨[], World.ownsRow_nil _ _ _ _, fun j hj => absurd hj (by simp [boxK])⟩, hb⟩
theorem ix_set {xs : List Value} {f : Nat → Int} {n j : Nat} {v : Int} (h : IxAt xs f n) (hj : j < xs.length) : IxAt (xs.set j (.int .i64 v)) (fun i => if i = j then v else f i) n := by
  intro i hi
  by_cases e : i = j
  · subst e; simp [hj]
  · rw [List.getElem?_set_ne (fun h => e h.symm)]; simp only [if_neg e]; exact h i hi
theorem ix_congr {xs : List Value} {f f' : Nat → Int} {n : Nat} (h : IxAt xs f n) (e : ∀ i, i < n → f i = f' i) : IxAt xs f' n := fun i hi => by rw [← e i hi]; exact h i hi
/-- While it is painted. -/
structure ByS (w u : World) (b2 b4 b6 g : Nat) (a b c d : Int) (N : Nat) (f : Nat → Int) : Prop where
  box : u.heap[b2]? = some (.cells #[.int .i64 a, .int .i64 b, .int .i64 c, .int .i64 d] 28 (0, 0))
  zero : u.heap[b4]? = some (.cells #[.int .i64 0, .int .i64 0, .int .i64 0, .int .i64 0, .slice none 0 0] 30 (0, 0))
  row : u.heap[b6]? = some (.cells #[.int .i64 a, .int .i64 b, .int .i64 c, .int .i64 d, .slice (some ⟨g, 0, none⟩) N N] 30 (0, 0))
  own : ∃ xs, u.ownsRow g 3 1 (.slice (some ⟨g, 0, none⟩) N N) N xs ∧ IxAt xs f N
  bel : Below w.heap.size w u
theorem ByS.next {w u u' : World} {b2 b4 b6 g : Nat} {a b c d : Int} {N : Nat} {f : Nat → Int} (h : ByS w u b2 b4 b6 g a b c d N f) (hb : Below u.heap.size u u') : ByS w u' b2 b4 b6 g a b c d N f :=
  ⟨row_next hb h.box, row_next hb h.zero, row_next hb h.row, let ⟨xs, h1, h2⟩ := h.own; ⟨xs, own_below h1 hb, h2⟩, below_two h.bel hb⟩
theorem ByS.put {w u : World} {b2 b4 b6 g : Nat} {a b c d : Int} {N : Nat} {f : Nat → Int} (h : ByS w u b2 b4 b6 g a b c d N f) (hw : w.heap.size ≤ g) (h2 : b2 < g) (h4 : b4 < g) (h6 : b6 < g) {j : Nat} (hj : j < N) (v : Int) : ByS w (u.setCell ⟨g, j, none⟩ (.int .i64 v)) b2 b4 b6 g a b c d N (fun i => if i = j then v else f i) := by
  obtain ⟨xs, o, x⟩ := h.own
  exact ⟨setc_other (by omega) h.box, setc_other (by omega) h.zero, setc_other (by omega) h.row, ⟨_, (o.stored j _).1, ix_set x (by have := o.1; omega)⟩, h.bel.setCell (p := ⟨g, j, none⟩) hw _⟩
theorem ByS.congr {w u : World} {b2 b4 b6 g : Nat} {a b c d : Int} {N : Nat} {f f' : Nat → Int} (h : ByS w u b2 b4 b6 g a b c d N f) (e : ∀ i, i < N → f i = f' i) : ByS w u b2 b4 b6 g a b c d N f' :=
  ⟨h.box, h.zero, h.row, let ⟨xs, h1, h2⟩ := h.own; ⟨xs, h1, ix_congr h2 e⟩, h.bel⟩
theorem ByS.ints {w u : World} {b2 b4 b6 g : Nat} {a b c d : Int} {N : Nat} {f : Nat → Int} (h : ByS w u b2 b4 b6 g a b c d N f) : ∀ i, i < N → IntAt u (some ⟨g, 0, none⟩) i (f i) := let ⟨_, h1, h2⟩ := h.own; own_ix h1 h2
theorem ByS.cell {w u : World} {b2 b4 b6 g : Nat} {a b c d : Int} {N : Nat} {f : Nat → Int} (h : ByS w u b2 b4 b6 g a b c d N f) {j : Nat} (hj : j < N) : u.cell? ⟨g, j, none⟩ = some (.int .i64 (f j)) ∧ u.frozen? ⟨g, j, none⟩ = false := by
  obtain ⟨xs, o, x⟩ := h.own
  exact ⟨by rw [o.cellAt _ (by omega)]; exact x j hj, o.frozenAt j⟩
theorem made_zero (N : Nat) : IxAt (madeCells (Value.int .i64 0).cells (N * 1)).toList (fun _ => 0) N := by
  intro j hj
  simp [madeCells, Value.cells, hj, Nat.mod_one]
/-- A run of the box, painted as far as x. -/
theorem run_bd {a b c d : Int} {r : B4} (hb : boxInB a b c d = true) (hr : inRunB a b c d r = true) : (a ≤ r.y0 ∧ r.y0 < r.x1 ∧ r.x1 ≤ c ∧ b ≤ r.x0 ∧ r.x0 < d) ∧ 0 ≤ placeI a b c r.y0 r.x0 ∧ placeI a b c r.y0 r.x0 + (r.x1 - r.y0) ≤ ((sqN a b c d : Nat) : Int) ∧ ∀ x, placeI a b c x r.x0 = placeI a b c r.y0 r.x0 + (x - r.y0) := by
  unfold inRunB at hr
  rw [Bool.and_eq_true, Bool.and_eq_true, inB_true, inB_true, inB_true] at hr
  obtain ⟨p1, p2, _⟩ := boxIn_iff.1 hb
  have hin : ∀ x, a ≤ x → x < c → inBoxB a b c d x r.x0 = true := fun x h1 h2 => by
    unfold inBoxB
    rw [decide_eq_true (by omega), decide_eq_true (by omega), decide_eq_true (by omega), decide_eq_true (by omega)]; rfl
  have q1 := place_bd hb (hin r.y0 (by omega) (by omega))
  have q2 := place_bd hb (hin (r.x1 - 1) (by omega) (by omega))
  have q3 : ∀ x, placeI a b c x r.x0 = placeI a b c r.y0 r.x0 + (x - r.y0) := fun x => by unfold placeI; omega
  have q4 := q3 (r.x1 - 1)
  exact ⟨by omega, q1.1, by omega, q3⟩
attribute [local go_sem ↓] eqZero_yes eqZero_no in
set_option maxHeartbeats 16000000 in
set_option maxRecDepth 100000 in
theorem specMaskBy_any (a b c d : Int) (G : Nat → B4) (ao : Option Addr) (m cap : Nat) (hm : m ≤ 1048576) (w : World) (P : ∀ i, i < m → RnAt w ao i (G i)) :
    Calls Try.prog 19 #[.agg #[.int .i64 a, .int .i64 b, .int .i64 c, .int .i64 d], .slice ao m cap] w fun r w' => ByRes w r w' (byOkB a b c d m G) a b c d (sqN a b c d) (paintN a b c G m) := by
  obtain ⟨i1, hi1, hz1, hs1, hb1⟩ := info_parts Try.info3
  have hyes : Hid (ByOk a b c d m G → byOkB a b c d m G = true) := fun h => byOk_iff.2 h
  have hno : Hid (¬ ByOk a b c d m G → byOkB a b c d m G = false) := fun h => byOk_no h
  generalize byOkB a b c d m G = X at hyes hno ⊢
  obtain ⟨N, hN⟩ : ∃ N, Hid (N = sqN a b c d) := ⟨_, rfl⟩
  rw [← unhide hN]
  have EB := hide (specL11Box_any a b c d)
  replace P := hide P
  by_cases hz : a = 0 ∧ b = 0 ∧ c = 0 ∧ d = 0
  · by_cases hm0 : m = 0
    · obtain rfl := unhide hyes (.inl ⟨hz.1, hz.2.1, hz.2.2.1, hz.2.2.2, hm0⟩)
      obtain ⟨rfl, rfl, rfl, rfl⟩ := hz
      have hN0 : N = 0 := by rw [unhide hN]; rfl
      subst hN0
      subst hm0
      clear hyes hno EB P
      go_enter Try.func19, Try.ntmps19
      go_upto_region 2 with fail
      have R2 := hide (al3_0 w (.cells #[.int .i64 0, .int .i64 0, .int .i64 0, .int .i64 0] 28) (.cells #[.int .i64 0, .int .i64 0, .int .i64 0, .int .i64 0, .slice none 0 0] 30) (.cells #[.int .i64 0, .int .i64 0, .int .i64 0, .int .i64 0, .slice none 0 0] 30))
      have R4 := hide (al3_1 w (.cells #[.int .i64 0, .int .i64 0, .int .i64 0, .int .i64 0] 28) (.cells #[.int .i64 0, .int .i64 0, .int .i64 0, .int .i64 0, .slice none 0 0] 30) (.cells #[.int .i64 0, .int .i64 0, .int .i64 0, .int .i64 0, .slice none 0 0] 30))
      have R6 := hide (al3_2 w (.cells #[.int .i64 0, .int .i64 0, .int .i64 0, .int .i64 0] 28) (.cells #[.int .i64 0, .int .i64 0, .int .i64 0, .int .i64 0, .slice none 0 0] 30) (.cells #[.int .i64 0, .int .i64 0, .int .i64 0, .int .i64 0, .slice none 0 0] 30))
      have HB := hide (al3_below w (.cells #[.int .i64 0, .int .i64 0, .int .i64 0, .int .i64 0] 28) (.cells #[.int .i64 0, .int .i64 0, .int .i64 0, .int .i64 0, .slice none 0 0] 30) (.cells #[.int .i64 0, .int .i64 0, .int .i64 0, .int .i64 0, .slice none 0 0] 30))
      obtain ⟨b6, hb6⟩ : ∃ b, Hid (b = w.heap.size + 1 + 1) := ⟨_, rfl⟩
      obtain ⟨b4, hb4⟩ : ∃ b, Hid (b = w.heap.size + 1) := ⟨_, rfl⟩
      obtain ⟨b2, hb2⟩ : ∃ b, Hid (b = w.heap.size) := ⟨_, rfl⟩
      have lz : Hid (w.heap.size ≤ b4) := by unfold Hid; rw [unhide hb4]; omega
      have lz6 : Hid (w.heap.size ≤ b6 ∧ b2 < b4 ∧ b4 < b6) := by unfold Hid; rw [unhide hb6, unhide hb4, unhide hb2]; omega
      rw [← unhide hb6] at R6
      rw [← unhide hb4] at R4
      rw [← unhide hb2] at R2
      rw [← unhide hb6, ← unhide hb4, ← unhide hb2]
      generalize ((w.alloc (.cells #[.int .i64 0, .int .i64 0, .int .i64 0, .int .i64 0] 28)).alloc (.cells #[.int .i64 0, .int .i64 0, .int .i64 0, .int .i64 0, .slice none 0 0] 30)).alloc (.cells #[.int .i64 0, .int .i64 0, .int .i64 0, .int .i64 0, .slice none 0 0] 30) = W at R2 R4 R6 HB ⊢
      obtain ⟨q0, q1, q2, q3⟩ := row4 (unhide R2)
      obtain ⟨s0, s1, s2, s3, s4⟩ := row5m (unhide R6)
      obtain ⟨e0, e1, e2, e3, e4⟩ := row5m (unhide R4)
      obtain ⟨f0, f1, f2, f3, f4⟩ := frozen5 (unhide R4)
      go_wp2_with fail
      refine bodyPost_ret (v := .tuple #[.agg #[.int .i64 0, .int .i64 0, .int .i64 0, .int .i64 0, .slice none 0 0], .bool true]) (by simp [results, Try.results19, go_sem, e0, e1, e2, e3, e4]) rfl ?_
      exact ⟨none, 0, rfl, ⟨[], World.ownsRow_nil _ _ _ _, fun j hj => absurd hj (by simp [boxK])⟩, below_put5 (unhide HB) (unhide lz) _ _ _ _ _⟩
    · obtain rfl := unhide hno (fun h => by
        rcases h with ⟨_, _, _, _, h⟩ | ⟨h, _⟩
        · exact hm0 h
        · rw [boxIn_iff] at h; omega)
      obtain ⟨rfl, rfl, rfl, rfl⟩ := hz
      have hmb : ((m : Int) == 0) = false := beq_eq_false_iff_ne.2 (by omega)
      clear hyes hno EB P
      go_enter Try.func19, Try.ntmps19
      go_upto_region 2 with fail
      have R2 := hide (al3_0 w (.cells #[.int .i64 0, .int .i64 0, .int .i64 0, .int .i64 0] 28) (.cells #[.int .i64 0, .int .i64 0, .int .i64 0, .int .i64 0, .slice none 0 0] 30) (.cells #[.int .i64 0, .int .i64 0, .int .i64 0, .int .i64 0, .slice none 0 0] 30))
      have R4 := hide (al3_1 w (.cells #[.int .i64 0, .int .i64 0, .int .i64 0, .int .i64 0] 28) (.cells #[.int .i64 0, .int .i64 0, .int .i64 0, .int .i64 0, .slice none 0 0] 30) (.cells #[.int .i64 0, .int .i64 0, .int .i64 0, .int .i64 0, .slice none 0 0] 30))
      have R6 := hide (al3_2 w (.cells #[.int .i64 0, .int .i64 0, .int .i64 0, .int .i64 0] 28) (.cells #[.int .i64 0, .int .i64 0, .int .i64 0, .int .i64 0, .slice none 0 0] 30) (.cells #[.int .i64 0, .int .i64 0, .int .i64 0, .int .i64 0, .slice none 0 0] 30))
      have HB := hide (al3_below w (.cells #[.int .i64 0, .int .i64 0, .int .i64 0, .int .i64 0] 28) (.cells #[.int .i64 0, .int .i64 0, .int .i64 0, .int .i64 0, .slice none 0 0] 30) (.cells #[.int .i64 0, .int .i64 0, .int .i64 0, .int .i64 0, .slice none 0 0] 30))
      obtain ⟨b6, hb6⟩ : ∃ b, Hid (b = w.heap.size + 1 + 1) := ⟨_, rfl⟩
      obtain ⟨b4, hb4⟩ : ∃ b, Hid (b = w.heap.size + 1) := ⟨_, rfl⟩
      obtain ⟨b2, hb2⟩ : ∃ b, Hid (b = w.heap.size) := ⟨_, rfl⟩
      have lz : Hid (w.heap.size ≤ b4) := by unfold Hid; rw [unhide hb4]; omega
      have lz6 : Hid (w.heap.size ≤ b6 ∧ b2 < b4 ∧ b4 < b6) := by unfold Hid; rw [unhide hb6, unhide hb4, unhide hb2]; omega
      rw [← unhide hb6] at R6
      rw [← unhide hb4] at R4
      rw [← unhide hb2] at R2
      rw [← unhide hb6, ← unhide hb4, ← unhide hb2]
      generalize ((w.alloc (.cells #[.int .i64 0, .int .i64 0, .int .i64 0, .int .i64 0] 28)).alloc (.cells #[.int .i64 0, .int .i64 0, .int .i64 0, .int .i64 0, .slice none 0 0] 30)).alloc (.cells #[.int .i64 0, .int .i64 0, .int .i64 0, .int .i64 0, .slice none 0 0] 30) = W at R2 R4 R6 HB ⊢
      obtain ⟨q0, q1, q2, q3⟩ := row4 (unhide R2)
      obtain ⟨s0, s1, s2, s3, s4⟩ := row5m (unhide R6)
      obtain ⟨e0, e1, e2, e3, e4⟩ := row5m (unhide R4)
      obtain ⟨f0, f1, f2, f3, f4⟩ := frozen5 (unhide R4)
      go_wp2_with fail
      refine bodyPost_ret (v := .tuple #[.agg #[.int .i64 0, .int .i64 0, .int .i64 0, .int .i64 0, .slice none 0 0], .bool false]) (by simp [results, Try.results19, go_sem, e0, e1, e2, e3, e4]) rfl ?_
      exact by_none (below_put5 (unhide HB) (unhide lz) _ _ _ _ _)
  · go_enter Try.func19, Try.ntmps19
    go_upto_region 2 with fail
    have R2 := hide (al3_0 w (.cells #[.int .i64 a, .int .i64 b, .int .i64 c, .int .i64 d] 28) (.cells #[.int .i64 0, .int .i64 0, .int .i64 0, .int .i64 0, .slice none 0 0] 30) (.cells #[.int .i64 0, .int .i64 0, .int .i64 0, .int .i64 0, .slice none 0 0] 30))
    have R4 := hide (al3_1 w (.cells #[.int .i64 a, .int .i64 b, .int .i64 c, .int .i64 d] 28) (.cells #[.int .i64 0, .int .i64 0, .int .i64 0, .int .i64 0, .slice none 0 0] 30) (.cells #[.int .i64 0, .int .i64 0, .int .i64 0, .int .i64 0, .slice none 0 0] 30))
    have R6 := hide (al3_2 w (.cells #[.int .i64 a, .int .i64 b, .int .i64 c, .int .i64 d] 28) (.cells #[.int .i64 0, .int .i64 0, .int .i64 0, .int .i64 0, .slice none 0 0] 30) (.cells #[.int .i64 0, .int .i64 0, .int .i64 0, .int .i64 0, .slice none 0 0] 30))
    have HB := hide (al3_below w (.cells #[.int .i64 a, .int .i64 b, .int .i64 c, .int .i64 d] 28) (.cells #[.int .i64 0, .int .i64 0, .int .i64 0, .int .i64 0, .slice none 0 0] 30) (.cells #[.int .i64 0, .int .i64 0, .int .i64 0, .int .i64 0, .slice none 0 0] 30))
    obtain ⟨b6, hb6⟩ : ∃ b, Hid (b = w.heap.size + 1 + 1) := ⟨_, rfl⟩
    obtain ⟨b4, hb4⟩ : ∃ b, Hid (b = w.heap.size + 1) := ⟨_, rfl⟩
    obtain ⟨b2, hb2⟩ : ∃ b, Hid (b = w.heap.size) := ⟨_, rfl⟩
    have lz : Hid (w.heap.size ≤ b4) := by unfold Hid; rw [unhide hb4]; omega
    have lz6 : Hid (w.heap.size ≤ b6 ∧ b2 < b4 ∧ b4 < b6) := by unfold Hid; rw [unhide hb6, unhide hb4, unhide hb2]; omega
    rw [← unhide hb6] at R6
    rw [← unhide hb4] at R4
    rw [← unhide hb2] at R2
    rw [← unhide hb6, ← unhide hb4, ← unhide hb2]
    generalize ((w.alloc (.cells #[.int .i64 a, .int .i64 b, .int .i64 c, .int .i64 d] 28)).alloc (.cells #[.int .i64 0, .int .i64 0, .int .i64 0, .int .i64 0, .slice none 0 0] 30)).alloc (.cells #[.int .i64 0, .int .i64 0, .int .i64 0, .int .i64 0, .slice none 0 0] 30) = W at R2 R4 R6 HB ⊢
    obtain ⟨q0, q1, q2, q3⟩ := row4 (unhide R2)
    go_wp2_with fail
    go_fit (unhide EB _)
    rintro r w1 ⟨rfl, hb⟩
    replace R2 := hide (row_next hb (unhide R2))
    replace R4 := hide (row_next hb (unhide R4))
    replace R6 := hide (row_next hb (unhide R6))
    replace HB := hide (below_two (unhide HB) hb)
    clear hb q0 q1 q2 q3 EB
    cases hbi : boxInB a b c d with
    | false =>
      obtain rfl := unhide hno (fun h => by
        rcases h with ⟨h0, h1, h2, h3, _⟩ | ⟨h, _⟩
        · exact hz ⟨h0, h1, h2, h3⟩
        · rw [hbi] at h; cases h)
      clear hbi hyes hno
      obtain ⟨s0, s1, s2, s3, s4⟩ := row5m (unhide R6)
      obtain ⟨e0, e1, e2, e3, e4⟩ := row5m (unhide R4)
      obtain ⟨f0, f1, f2, f3, f4⟩ := frozen5 (unhide R4)
      go_wp2_with fail
      refine bodyPost_ret (v := .tuple #[.agg #[.int .i64 0, .int .i64 0, .int .i64 0, .int .i64 0, .slice none 0 0], .bool false]) (by simp [results, Try.results19, go_sem, e0, e1, e2, e3, e4]) rfl ?_
      exact by_none (below_put5 (unhide HB) (unhide lz) _ _ _ _ _)
    | true =>
    by_cases hm3 : 3600 < m
    · obtain rfl := unhide hno (fun h => by
        rcases h with ⟨h0, h1, h2, h3, _⟩ | ⟨_, h, _⟩
        · exact hz ⟨h0, h1, h2, h3⟩
        · omega)
      have hmi : (3600 : Int) < (m : Int) := by omega
      clear hbi hyes hno
      obtain ⟨s0, s1, s2, s3, s4⟩ := row5m (unhide R6)
      obtain ⟨e0, e1, e2, e3, e4⟩ := row5m (unhide R4)
      obtain ⟨f0, f1, f2, f3, f4⟩ := frozen5 (unhide R4)
      go_wp2_with fail
      refine bodyPost_ret (v := .tuple #[.agg #[.int .i64 0, .int .i64 0, .int .i64 0, .int .i64 0, .slice none 0 0], .bool false]) (by simp [results, Try.results19, go_sem, e0, e1, e2, e3, e4]) rfl ?_
      exact by_none (below_put5 (unhide HB) (unhide lz) _ _ _ _ _)
    have hmi : ¬ (3600 : Int) < (m : Int) := by omega
    have hnz : Hid (¬ (a = 0 ∧ b = 0 ∧ c = 0 ∧ d = 0)) := hz
    have hNi : Hid ((N : Int) = (c - a) * (d - b)) := by unfold Hid; rw [unhide hN]; exact sqN_int hbi
    have hNb : N ≤ 3600 ∧ 0 < N := by rw [unhide hN]; exact sqN_le hbi
    obtain ⟨x1, x2, x3, x4, x5, x6, x7, x8⟩ := boxIn_iff.1 hbi
    have v1 : IntKind.i64.wrap (c - a) = c - a := IntWalk.i64_in _ (by omega)
    have v2 : IntKind.i64.wrap (d - b) = d - b := IntWalk.i64_in _ (by omega)
    have v3 : IntKind.i64.wrap ((c - a) * (d - b)) = (N : Int) := by rw [← unhide hNi]; exact IntWalk.i64_in _ (by omega)
    have hrb := hide (fun (r : B4) hr => run_bd (r := r) hbi hr)
    rw [← unhide hN] at hrb
    have hmk : Hid (maskOkB a b c d N (paintN a b c G m) = true ↔ ∀ i, i < N → inB (paintN a b c G m i) 0 15 = true) := by
      unfold Hid; rw [maskOk_iff, mok_some (by omega)]
      exact ⟨fun h => h.2.2, fun h => ⟨hbi, unhide hN, h⟩⟩
    replace hbi := hide hbi
    clear hz
    obtain ⟨q0, q1, q2, q3⟩ := row4 (unhide R2)
    obtain ⟨s0, s1, s2, s3, s4⟩ := row5m (unhide R6)
    obtain ⟨f0, f1, f2, f3, f4⟩ := frozen5 (unhide R6)
    go_upto_region 7 with fail
    clear q0 q1 q2 q3 s0 s1 s2 s3 s4 f0 f1 f2 f3 f4
    replace R2 := hide (put4_other (b := b6) (x := .int .i64 a) (y := .int .i64 b) (z := .int .i64 c) (t := .int .i64 d) (by have := unhide lz6; omega) (unhide R2))
    replace R4 := hide (put4_other (b := b6) (x := .int .i64 a) (y := .int .i64 b) (z := .int .i64 c) (t := .int .i64 d) (by have := unhide lz6; omega) (unhide R4))
    replace R6 := hide (put5_4row (y0 := .int .i64 a) (y1 := .int .i64 b) (y2 := .int .i64 c) (y3 := .int .i64 d) (unhide R6))
    replace HB := hide (below_put4 (unhide HB) (unhide lz6).1 (.int .i64 a) (.int .i64 b) (.int .i64 c) (.int .i64 d))
    generalize (((w1.setCell ⟨b6, 0, none⟩ (.int .i64 a)).setCell ⟨b6, 1, none⟩ (.int .i64 b)).setCell ⟨b6, 2, none⟩ (.int .i64 c)).setCell ⟨b6, 3, none⟩ (.int .i64 d) = W7 at R2 R4 R6 HB ⊢
    have l6 := hide (show b6 < W7.heap.size from heap_lt (unhide R6))
    have lw := hide (show w.heap.size ≤ W7.heap.size from (unhide HB).size)
    obtain ⟨q0, q1, q2, q3⟩ := row4 (unhide R2)
    go_wp2_with (at_make; go_must (refine wpList_make_full W7 rfl _ _ 24 rfl W7.heap.size 3 i1 (.int .i64 0) 1 Try.underlying24 hi1 hz1 hs1 .i64 .i64 _ _ N (by rfl) (by rfl) (by rfl) (by rfl) (by rw [hb1]; omega) (by unfold maxLen; omega) (Nat.le_refl _) ?_); intro w8 hown8 hg8; have B8 : Below W7.heap.size W7 w8 := (Below.refl _ W7).grown hg8 (Nat.le_refl _) (by simp); obtain ⟨s0, s1, s2, s3, s4⟩ := row5m (row_next B8 (unhide R6)); obtain ⟨f0, f1, f2, f3, f4⟩ := frozen5 (row_next B8 (unhide R6)); replace hown8 := hide hown8; replace B8 := hide B8; clear hg8)
    clear q0 q1 q2 q3 s0 s1 s2 s3 s4 f0 f1 f2 f3 f4
    have BY := hide (show ByS w (w8.setCell ⟨b6, 4, none⟩ (.slice (some ⟨W7.heap.size, 0, none⟩) N N)) b2 b4 b6 W7.heap.size a b c d N (paintN a b c G 0) from
      ⟨setc_other (by have := unhide lz6; omega) (row_next (unhide B8) (unhide R2)), setc_other (by have := unhide lz6; omega) (row_next (unhide B8) (unhide R4)), set5_4 (row_next (unhide B8) (unhide R6)), ⟨_, own_setc (unhide hown8) (unhide l6), made_zero N⟩, (below_two (unhide HB) (unhide B8)).setCell (p := ⟨b6, 4, none⟩) (unhide lz6).1 _⟩)
    generalize w8.setCell ⟨b6, 4, none⟩ (.slice (some ⟨W7.heap.size, 0, none⟩) N N) = W9 at BY ⊢
    generalize W7.heap.size = g at BY l6 lw ⊢
    clear hown8 B8 R2 R4 R6 HB v1 v2 v3
    have lo := hide (show w.heap.size ≤ g ∧ b2 < g ∧ b4 < g ∧ b6 < g by have := unhide lz6; have := unhide l6; have := unhide lw; omega)
    go_loopw [7] (fun i u => ∃ k : Nat, k ≤ m ∧ i = .int .i64 k ∧ Hid (∀ j, j < k → inRunB a b c d (G j) = true) ∧ Hid (ByS w u b2 b4 b6 g a b c d N (paintN a b c G k))) (fun i _ => m - (intOf i).toNat)
    case atStart => exact ⟨0, Nat.zero_le _, rfl, fun j hj => absurd hj (by omega), BY⟩
    case round =>
      clear BY
      obtain ⟨k, hk, rfl, HK, BY⟩ := hrel
      by_cases hlt : k < m
      · have HP := (unhide P k hlt).next (unhide BY).bel
        obtain ⟨r, hr⟩ : ∃ r, Hid (G k = r) := ⟨_, rfl⟩
        rw [unhide hr] at HP
        have hpn : Hid (∀ i, paintN a b c G (k + 1) i = if hitP a b c r i then r.y1 else paintN a b c G k i) := fun i => by rw [paintN, unhide hr]
        obtain ⟨ry, rx0, rx1, rv⟩ := r
        obtain ⟨s, o, rfl, g0, g1, g2, g3⟩ := HP
        dsimp only at g0 g1 g2 g3
        have hki : (k : Int) < (m : Int) := by omega
        go_upto_region 12 with fail
        have R8 := hide (new_row wr (.cells #[.int .i64 ry, .int .i64 rx0, .int .i64 rx1, .int .i64 rv] 60))
        have hb := al1_below wr (.cells #[.int .i64 ry, .int .i64 rx0, .int .i64 rx1, .int .i64 rv] 60)
        have lg : Hid (g < wr.heap.size) := by obtain ⟨xs, o, _⟩ := (unhide BY).own; exact (o.lt g rfl).2
        replace BY := hide ((unhide BY).next hb)
        clear hb g0 g1 g2 g3
        generalize wr.alloc (.cells #[.int .i64 ry, .int .i64 rx0, .int .i64 rx1, .int .i64 rv] 60) = U at R8 BY ⊢
        generalize wr.heap.size = b8 at R8 lg ⊢
        have E1 := hide (l01In_any ry b (d - 1))
        have E2 := hide (l01In_any rx0 a (c - 1))
        have E3 := hide (l01In_any rx1 (rx0 + 1) c)
        have hir : Hid ((inB ry b (d - 1) && (inB rx0 a (c - 1) && inB rx1 (rx0 + 1) c)) = inRunB a b c d ⟨ry, rx0, rx1, rv⟩) := rfl
        have hrb1 := hide (unhide hrb ⟨ry, rx0, rx1, rv⟩)
        have nn1 : IntKind.i64.wrap (d - 1) = d - 1 := IntWalk.i64_in _ (by omega)
        have nn2 : IntKind.i64.wrap (c - 1) = c - 1 := IntWalk.i64_in _ (by omega)
        have nn3 : Hid (inB rx0 a (c - 1) = true → IntKind.i64.wrap (rx0 + 1) = rx0 + 1) := fun h => by rw [inB_true] at h; exact IntWalk.i64_in _ (by omega)
        have hbad : Hid (inRunB a b c d ⟨ry, rx0, rx1, rv⟩ = false → X = false) := fun h => unhide hno (fun h' => by
          rcases h' with ⟨h0, h1, h2, h3, _⟩ | ⟨_, _, h', _⟩
          · exact unhide hnz ⟨h0, h1, h2, h3⟩
          · have := h' k hlt; rw [unhide hr, h] at this; cases this)
        generalize inB ry b (d - 1) = t1 at E1 hir
        generalize inB rx0 a (c - 1) = t2 at E2 hir nn3
        generalize inB rx1 (rx0 + 1) c = t3 at E3 hir
        obtain ⟨q0, q1, q2, q3⟩ := row4 (unhide BY).box
        obtain ⟨p0, p1, p2, p3⟩ := row4 (unhide R8)
        go_wp2_with fail
        go_fit (unhide E1 _)
        rintro r u2 ⟨rfl, rfl⟩
        cases t1 with
        | false =>
          obtain rfl := unhide hbad (unhide hir).symm
          obtain ⟨e0, e1, e2, e3, e4⟩ := row5m (unhide BY).zero
          obtain ⟨f0, f1, f2, f3, f4⟩ := frozen5 (unhide BY).zero
          go_wp2_with fail
          refine bodyPost_ret (v := .tuple #[.agg #[.int .i64 0, .int .i64 0, .int .i64 0, .int .i64 0, .slice none 0 0], .bool false]) (by simp [results, Try.results19, go_sem, e0, e1, e2, e3, e4]) rfl ?_
          exact by_none (below_put5 (unhide BY).bel (unhide lz) _ _ _ _ _)
        | true =>
        go_wp2_with fail
        go_fit (unhide E2 _)
        rintro r u2 ⟨rfl, rfl⟩
        cases t2 with
        | false =>
          obtain rfl := unhide hbad (unhide hir).symm
          obtain ⟨e0, e1, e2, e3, e4⟩ := row5m (unhide BY).zero
          obtain ⟨f0, f1, f2, f3, f4⟩ := frozen5 (unhide BY).zero
          go_wp2_with fail
          refine bodyPost_ret (v := .tuple #[.agg #[.int .i64 0, .int .i64 0, .int .i64 0, .int .i64 0, .slice none 0 0], .bool false]) (by simp [results, Try.results19, go_sem, e0, e1, e2, e3, e4]) rfl ?_
          exact by_none (below_put5 (unhide BY).bel (unhide lz) _ _ _ _ _)
        | true =>
        have nn3' := unhide nn3 (by trivial)
        go_wp2_with fail
        go_fit (unhide E3 _)
        rintro r u2 ⟨rfl, rfl⟩
        cases t3 with
        | false =>
          obtain rfl := unhide hbad (unhide hir).symm
          obtain ⟨e0, e1, e2, e3, e4⟩ := row5m (unhide BY).zero
          obtain ⟨f0, f1, f2, f3, f4⟩ := frozen5 (unhide BY).zero
          go_wp2_with fail
          refine bodyPost_ret (v := .tuple #[.agg #[.int .i64 0, .int .i64 0, .int .i64 0, .int .i64 0, .slice none 0 0], .bool false]) (by simp [results, Try.results19, go_sem, e0, e1, e2, e3, e4]) rfl ?_
          exact by_none (below_put5 (unhide BY).bel (unhide lz) _ _ _ _ _)
        | true =>
        have hin : Hid (inRunB a b c d ⟨ry, rx0, rx1, rv⟩ = true) := (unhide hir).symm
        obtain ⟨⟨y1, y2, y3, y4, y5⟩, z1, z2, z3⟩ := unhide hrb1 (unhide hin)
        obtain ⟨P0, hP0⟩ : ∃ P0 : Nat, placeI a b c rx0 ry = (P0 : Int) := ⟨(placeI a b c rx0 ry).toNat, by omega⟩
        obtain ⟨T0, hT0⟩ : ∃ T0 : Nat, rx1 - rx0 = (T0 : Int) := ⟨(rx1 - rx0).toNat, by omega⟩
        rw [hP0, hT0] at z2
        have hPT : P0 + T0 ≤ N := by omega
        have hpl : Hid (∀ t : Nat, (ry - b) * (c - a) + (rx0 + (t : Int)) - a = ((P0 + t : Nat) : Int)) := fun t => by
          have h := z3 (rx0 + (t : Int)); rw [hP0] at h; unfold placeI at h; omega
        have hpn2 : Hid (∀ i, paintN a b c G (k + 1) i = if P0 ≤ i ∧ i < P0 + T0 then rv else paintN a b c G k i) := fun i => by
          rw [unhide hpn i]
          have e1 : hitP a b c ⟨ry, rx0, rx1, rv⟩ i ↔ P0 ≤ i ∧ i < P0 + T0 := by
            unfold hitP; dsimp only; rw [z3 rx1, hP0, hT0]; omega
          simp only [e1]
        clear z1 z2 z3 hP0 hpn hir hbad hrb1 E1 E2 E3 nn1 nn2 nn3 nn3'
        go_upto_region 15 with fail
        clear q0 q1 q2 q3 p0 p1 p2 p3
        go_loopw [9] (fun x u => ∃ t : Nat, t ≤ T0 ∧ x = .int .i64 (rx0 + (t : Int)) ∧ Hid (ByS w u b2 b4 b6 g a b c d N (fun i => if P0 ≤ i ∧ i < P0 + t then rv else paintN a b c G k i)) ∧ Hid (u.heap[b8]? = some (.cells #[.int .i64 ry, .int .i64 rx0, .int .i64 rx1, .int .i64 rv] 60 (0, 0)))) (fun x _ => (rx1 - intOf x).toNat)
        case atStart => exact ⟨0, Nat.zero_le _, by simp, hide ((unhide BY).congr (fun i _ => by rw [if_neg (by omega)])), R8⟩
        case round =>
          clear BY R8
          obtain ⟨t, ht, rfl, BY, R8⟩ := hrel
          obtain ⟨p0, p1, p2, p3⟩ := row4 (unhide R8)
          by_cases hlt2 : t < T0
          · have hxi : rx0 + (t : Int) < rx1 := by omega
            have hjn : P0 + t < N := by omega
            obtain ⟨q0, q1, q2, q3⟩ := row4 (unhide BY).box
            obtain ⟨s0, s1, s2, s3, s4⟩ := row5m (unhide BY).row
            obtain ⟨cj, fj⟩ := (unhide BY).cell hjn
            have m1 := mul_bd (A := 60) (X := 60) (a := ry - b) (x := c - a) (by omega) (by omega) (by omega) (by omega)
            have v1 : IntKind.i64.wrap (ry - b) = ry - b := IntWalk.i64_in _ (by omega)
            have v2 : IntKind.i64.wrap (c - a) = c - a := IntWalk.i64_in _ (by omega)
            have v3 : IntKind.i64.wrap ((ry - b) * (c - a)) = (ry - b) * (c - a) := IntWalk.i64_in _ (by omega)
            have v4 : IntKind.i64.wrap ((ry - b) * (c - a) + (rx0 + (t : Int))) = (ry - b) * (c - a) + (rx0 + (t : Int)) := IntWalk.i64_in _ (by omega)
            have v5 : IntKind.i64.wrap ((ry - b) * (c - a) + (rx0 + (t : Int)) - a) = ((P0 + t : Nat) : Int) := by rw [unhide hpl t]; exact IntWalk.i64_in _ (by omega)
            have wt : IntKind.i64.wrap (rx0 + (t : Int) + 1) = rx0 + (t : Int) + 1 := IntWalk.i64_in _ (by omega)
            have hB2 := hide ((unhide BY).put (unhide lo).1 (unhide lo).2.1 (unhide lo).2.2.1 (unhide lo).2.2.2 hjn rv)
            have R9 := hide (setc_other (b := g) (j := P0 + t) (v := .int .i64 rv) (by have := unhide lg; omega) (unhide R8))
            have hB3 := hide ((unhide hB2).congr (f' := fun i => if P0 ≤ i ∧ i < P0 + (t + 1) then rv else paintN a b c G k i) (fun i _ => by
              by_cases h1 : i = P0 + t
              · rw [if_pos h1, if_pos (by omega)]
              · rw [if_neg h1]
                by_cases h2 : P0 ≤ i ∧ i < P0 + t
                · rw [if_pos h2, if_pos (by omega)]
                · rw [if_neg h2, if_neg (by omega)]))
            clear hB2 m1
            obtain ⟨j, hj⟩ : ∃ j, Hid (j = P0 + t) := ⟨_, rfl⟩
            rw [← unhide hj] at cj fj v5 hB3 R9 hjn
            have hji : (j : Int) < (N : Int) := by omega
            generalize (if P0 ≤ j ∧ j < P0 + t then rv else paintN a b c G k j) = old at cj
            go_wp2_with fail
            go_roundw
            case rel => exact ⟨t + 1, by omega, congrArg (Value.int .i64) (by push_cast; omega), hB3, R9⟩
            case measure => simp [intOf]; omega
          · have hxi : ¬ rx0 + (t : Int) < rx1 := by omega
            have hte : t = T0 := by omega
            have HK2 : Hid (∀ j, j < k + 1 → inRunB a b c d (G j) = true) := fun j hj => by
              by_cases e : j = k
              · rw [e, unhide hr]; exact unhide hin
              · exact unhide HK j (by omega)
            have hB3 := hide ((unhide BY).congr (f' := paintN a b c G (k + 1)) (fun i _ => by rw [unhide hpn2 i, hte]))
            clear hte
            go_wp2_with fail
            go_roundw
            case rel => exact ⟨k + 1, by omega, by go_num, HK2, hB3⟩
            case measure => simp [intOf]; omega
      · have hke : k = m := by omega
        subst hke
        have hki : ¬ (k : Int) < (k : Int) := by omega
        have ER := hide (specRunsOf_any a b c d (paintN a b c G k) (some ⟨g, 0, none⟩) N N (by omega) wr (unhide BY).ints)
        obtain ⟨s0, s1, s2, s3, s4⟩ := row5m (unhide BY).row
        go_wp2_with fail
        go_fit (unhide ER)
        intro r w10 hres
        obtain ⟨v, rfl, hown, hb⟩ := hres
        replace BY := hide ((unhide BY).next hb)
        clear hb s0 s1 s2 s3 s4 ER
        obtain ⟨L, hL⟩ : ∃ L, Hid (runsM a b c d N (paintN a b c G k) = L) := ⟨_, rfl⟩
        rw [unhide hL] at hown
        obtain ⟨pv, cv, rfl, _, hat⟩ := own_rn hown
        clear hown
        replace hat := hide hat
        have EM := hide (specMaskOk_any a b c d (paintN a b c G k) (some ⟨g, 0, none⟩) N N (by omega) w10 (unhide BY).ints)
        have hLm : Hid (maskOkB a b c d N (paintN a b c G k) = true → L = runsL a b c d (paintN a b c G k)) := fun h => by rw [← unhide hL]; unfold runsM; rw [if_pos h]
        obtain ⟨mo, hmo⟩ : ∃ mo, Hid (maskOkB a b c d N (paintN a b c G k) = mo) := ⟨_, rfl⟩
        rw [unhide hmo] at EM hLm hmk
        obtain ⟨s0, s1, s2, s3, s4⟩ := row5m (unhide BY).row
        go_wp2_with fail
        go_fit (unhide EM)
        rintro r w11 ⟨rfl, hb⟩
        replace BY := hide ((unhide BY).next hb)
        replace hat := hide (fun i hi => (unhide hat i hi).next hb)
        clear hb s0 s1 s2 s3 s4 EM
        cases mo with
        | false =>
          obtain rfl := unhide hno (fun h => by
            rcases h with ⟨h0, h1, h2, h3, _⟩ | ⟨_, _, _, h', _⟩
            · exact unhide hnz ⟨h0, h1, h2, h3⟩
            · rw [← unhide hN] at h'; exact absurd ((unhide hmk).2 h') (by simp))
          obtain ⟨e0, e1, e2, e3, e4⟩ := row5m (unhide BY).zero
          obtain ⟨f0, f1, f2, f3, f4⟩ := frozen5 (unhide BY).zero
          go_wp2_with fail
          refine bodyPost_ret (v := .tuple #[.agg #[.int .i64 0, .int .i64 0, .int .i64 0, .int .i64 0, .slice none 0 0], .bool false]) (by simp [results, Try.results19, go_sem, e0, e1, e2, e3, e4]) rfl ?_
          exact by_none (below_put5 (unhide BY).bel (unhide lz) _ _ _ _ _)
        | true =>
        replace hLm := hide (unhide hLm (by trivial))
        by_cases hlen : L.length = k
        · have hlb : (((L.length : Nat) : Int) == (k : Int)) = true := beq_iff_eq.2 (by omega)
          go_wp2_with fail
          go_loopw [11] (fun i u => ∃ j : Nat, j ≤ k ∧ i = .int .i64 j ∧ Hid (∀ q, q < j → listB L q = G q) ∧ Hid (ByS w u b2 b4 b6 g a b c d N (paintN a b c G k)) ∧ Hid (∀ i (hi : i < L.length), RnAt u pv i L[i])) (fun i _ => k - (intOf i).toNat)
          case atStart => exact ⟨0, Nat.zero_le _, rfl, fun q hq => absurd hq (by omega), BY, hat⟩
          case round =>
            clear BY hat
            obtain ⟨j, hj, rfl, HJ, BY, hat⟩ := hrel
            by_cases hlt : j < k
            · have HP := (unhide P j hlt).next (unhide BY).bel
              have HQ := unhide hat j (by omega)
              obtain ⟨r1, hr1⟩ : ∃ r, Hid (L[j]'(by omega) = r) := ⟨L[j]'(by omega), hide rfl⟩
              obtain ⟨r2, hr2⟩ : ∃ r, Hid (G j = r) := ⟨_, rfl⟩
              have hlj : Hid (listB L j = r1) := by unfold Hid; rw [listB_get (by omega)]; exact unhide hr1
              rw [unhide hr1] at HQ
              rw [unhide hr2] at HP
              have hneq : Hid (r1 ≠ r2 → X = false) := fun h => unhide hno (fun h' => by
                rcases h' with ⟨h0, h1, h2, h3, _⟩ | ⟨_, _, _, _, _, h'⟩
                · exact unhide hnz ⟨h0, h1, h2, h3⟩
                · have := h' j hlt; rw [← unhide hLm, unhide hlj, unhide hr2] at this; exact h this)
              have heqq : Hid (r1 = r2 → ∀ q, q < j + 1 → listB L q = G q) := fun h q hq => by
                by_cases e : q = j
                · rw [e, unhide hlj, unhide hr2]; exact h
                · exact unhide HJ q (by omega)
              clear hr1 hr2 hlj
              obtain ⟨y, xa, xb, v⟩ := r1
              obtain ⟨y', xa', xb', v'⟩ := r2
              obtain ⟨s, o, rfl, g0, g1, g2, g3⟩ := HQ
              obtain ⟨s', o', rfl, h0, h1, h2, h3⟩ := HP
              dsimp only at g0 g1 g2 g3 h0 h1 h2 h3
              have hji : (j : Int) < (k : Int) := by omega
              have hjl : (j : Int) < ((L.length : Nat) : Int) := by omega
              by_cases e1 : y = y'
              · by_cases e2 : xa = xa'
                · by_cases e3 : xb = xb'
                  · by_cases e4 : v = v'
                    · subst e1 e2 e3 e4
                      have HJ2 := hide (unhide heqq rfl)
                      clear heqq hneq
                      go_upto_region 24 with fail
                      go_quiet (fail)
                      go_wp2_with fail
                      go_roundw
                      case rel => exact ⟨j + 1, by omega, by go_num, HJ2, hide ((unhide BY).next (below_drews (Below.refl _ _) _)), hide (fun i hi => (unhide hat i hi).next (below_drews (Below.refl _ _) _))⟩
                      case measure => simp [intOf]; omega
                    · obtain rfl := unhide hneq (fun h => e4 (by injection h))
                      subst e1 e2 e3
                      have d4 : (v == v') = false := beq_eq_false_iff_ne.2 e4
                      obtain ⟨e0, e1, e2, e3, e4⟩ := row5m (unhide BY).zero
                      obtain ⟨f0, f1, f2, f3, f4⟩ := frozen5 (unhide BY).zero
                      go_upto_region 24 with fail
                      go_quiet (fail)
                      go_wp2_with fail
                      refine bodyPost_ret (v := .tuple #[.agg #[.int .i64 0, .int .i64 0, .int .i64 0, .int .i64 0, .slice none 0 0], .bool false]) (by simp [results, Try.results19, go_sem, e0, e1, e2, e3, e4]) rfl ?_
                      exact by_none (below_put5 (below_drews (unhide BY).bel _) (unhide lz) _ _ _ _ _)
                  · obtain rfl := unhide hneq (fun h => e3 (by injection h))
                    subst e1 e2
                    have d3 : (xb == xb') = false := beq_eq_false_iff_ne.2 e3
                    obtain ⟨e0, e1, e2, e3, e4⟩ := row5m (unhide BY).zero
                    obtain ⟨f0, f1, f2, f3, f4⟩ := frozen5 (unhide BY).zero
                    go_upto_region 24 with fail
                    go_quiet (fail)
                    go_wp2_with fail
                    refine bodyPost_ret (v := .tuple #[.agg #[.int .i64 0, .int .i64 0, .int .i64 0, .int .i64 0, .slice none 0 0], .bool false]) (by simp [results, Try.results19, go_sem, e0, e1, e2, e3, e4]) rfl ?_
                    exact by_none (below_put5 (below_drews (unhide BY).bel _) (unhide lz) _ _ _ _ _)
                · obtain rfl := unhide hneq (fun h => e2 (by injection h))
                  subst e1
                  have d2 : (xa == xa') = false := beq_eq_false_iff_ne.2 e2
                  obtain ⟨e0, e1, e2, e3, e4⟩ := row5m (unhide BY).zero
                  obtain ⟨f0, f1, f2, f3, f4⟩ := frozen5 (unhide BY).zero
                  go_upto_region 24 with fail
                  go_quiet (fail)
                  go_wp2_with fail
                  refine bodyPost_ret (v := .tuple #[.agg #[.int .i64 0, .int .i64 0, .int .i64 0, .int .i64 0, .slice none 0 0], .bool false]) (by simp [results, Try.results19, go_sem, e0, e1, e2, e3, e4]) rfl ?_
                  exact by_none (below_put5 (below_drews (unhide BY).bel _) (unhide lz) _ _ _ _ _)
              · obtain rfl := unhide hneq (fun h => e1 (by injection h))
                have d1 : (y == y') = false := beq_eq_false_iff_ne.2 e1
                obtain ⟨e0, e1, e2, e3, e4⟩ := row5m (unhide BY).zero
                obtain ⟨f0, f1, f2, f3, f4⟩ := frozen5 (unhide BY).zero
                go_upto_region 24 with fail
                go_quiet (fail)
                go_wp2_with fail
                refine bodyPost_ret (v := .tuple #[.agg #[.int .i64 0, .int .i64 0, .int .i64 0, .int .i64 0, .slice none 0 0], .bool false]) (by simp [results, Try.results19, go_sem, e0, e1, e2, e3, e4]) rfl ?_
                exact by_none (below_put5 (below_drews (unhide BY).bel _) (unhide lz) _ _ _ _ _)
            · have hje : j = k := by omega
              subst hje
              have hji : ¬ (j : Int) < (j : Int) := by omega
              obtain rfl := unhide hyes (.inr ⟨unhide hbi, by omega, unhide HK, by rw [← unhide hN]; exact (unhide hmk).1 (by trivial), by rw [← unhide hLm]; exact hlen, fun q hq => by rw [← unhide hLm]; exact unhide HJ q hq⟩)
              obtain ⟨s0, s1, s2, s3, s4⟩ := row5m (unhide BY).row
              obtain ⟨e0, e1, e2, e3, e4⟩ := row5m (unhide BY).zero
              obtain ⟨f0, f1, f2, f3, f4⟩ := frozen5 (unhide BY).zero
              go_wp2_with fail
              refine bodyPost_ret (v := .tuple #[.agg #[.int .i64 a, .int .i64 b, .int .i64 c, .int .i64 d, .slice (some ⟨g, 0, none⟩) N N], .bool true]) (by simp [results, Try.results19, go_sem, e0, e1, e2, e3, e4]) rfl ?_
              obtain ⟨xs, ow, xx⟩ := (unhide BY).own
              exact ⟨_, _, rfl, ⟨xs, own_low (own_put5 ow (fun q hq => by have := (ow.lt q hq).1; have := unhide lo; omega) _ _ _ _ _) (unhide lo).1, xx⟩, below_put5 (unhide BY).bel (unhide lz) _ _ _ _ _⟩
        · have hlb : (((L.length : Nat) : Int) == (k : Int)) = false := beq_eq_false_iff_ne.2 (by omega)
          obtain rfl := unhide hno (fun h => by
            rcases h with ⟨h0, h1, h2, h3, _⟩ | ⟨_, _, _, _, h', _⟩
            · exact unhide hnz ⟨h0, h1, h2, h3⟩
            · rw [← unhide hLm] at h'; exact hlen h')
          obtain ⟨e0, e1, e2, e3, e4⟩ := row5m (unhide BY).zero
          obtain ⟨f0, f1, f2, f3, f4⟩ := frozen5 (unhide BY).zero
          go_wp2_with fail
          refine bodyPost_ret (v := .tuple #[.agg #[.int .i64 0, .int .i64 0, .int .i64 0, .int .i64 0, .slice none 0 0], .bool false]) (by simp [results, Try.results19, go_sem, e0, e1, e2, e3, e4]) rfl ?_
          exact by_none (below_put5 (unhide BY).bel (unhide lz) _ _ _ _ _)
end Go.Proofs.Ytmhgfikcnhoknaa

/-
  The program's inReach and windOfEdge; its edges begin with the one that closes the line.
-/
namespace Go.Proofs.Ytmhgfikcnhoknaa
open Go.RowKit
set_option linter.unusedVariables false

/-- The first k edges, each told by the point at which it ends. -/
def windB (n : Nat) (pf : Nat → Pt) (p : Pt) : Nat → Int
  | 0 => 0
  | k + 1 => windB n pf p k + windE (pf ((k + n - 1) % n)) (pf k) p
theorem windB_bd (n : Nat) (pf : Nat → Pt) (p : Pt) : ∀ k : Nat, -(k : Int) ≤ windB n pf p k ∧ windB n pf p k ≤ (k : Int)
  | 0 => by simp [windB]
  | k + 1 => by
    have := windB_bd n pf p k
    have := windE_bd (pf ((k + n - 1) % n)) (pf k) p
    simp only [windB]; push_cast; omega
theorem windB_one (n : Nat) (pf : Nat → Pt) (p : Pt) : ∀ k : Nat, k + 1 ≤ n → windB n pf p (k + 1) = windE (pf (n - 1)) (pf 0) p + windN n pf p k
  | 0, h => by
    have e : (0 + n - 1) % n = n - 1 := by rw [Nat.zero_add]; exact Nat.mod_eq_of_lt (by omega)
    simp only [windB, windN, e]; omega
  | k + 1, h => by
    have e : (k + 1 + n - 1) % n = k := by
      rw [show k + 1 + n - 1 = k + n by omega, Nat.add_mod_right]; exact Nat.mod_eq_of_lt (by omega)
    have e' : (k + 1) % n = k + 1 := Nat.mod_eq_of_lt (by omega)
    have ih := windB_one n pf p k (by omega)
    rw [windB, e, ih, windN, e']; omega
theorem windB_all (n : Nat) (pf : Nat → Pt) (p : Pt) : windB n pf p n = windN n pf p n := by
  cases n with
  | zero => rfl
  | succ m =>
    rw [windB_one (m + 1) pf p m (Nat.le_refl _), windN, Nat.mod_self]
    simp only [Nat.add_sub_cancel]; omega
theorem windE_sw (a b p : Pt) : windE a b p = if upB a b p = true then 1 else if downB a b p = true then -1 else 0 := by
  unfold windE upB downB
  simp only [Bool.and_eq_true, decide_eq_true_eq]
  split <;> split <;> omega

theorem near_more {f : Nat → Pt} {k : Nat} (h : ∀ j, j < k → nearB (f j).1 (f j).2 = true) (hk : nearB (f k).1 (f k).2 = true) : ∀ j, j < k + 1 → nearB (f j).1 (f j).2 = true := by
  intro j hj
  by_cases e : j = k
  · subst e; exact hk
  · exact h j (by omega)
theorem near_not {x y : Int} (h : x < -33554432 ∨ 33554432 < x ∨ y < -33554432 ∨ 33554432 < y) : ¬ nearB x y = true := by
  simp only [nearB, inB, Bool.and_eq_true, decide_eq_true_eq]; omega
theorem near_yes {x y : Int} (h1 : ¬ x < -33554432) (h2 : ¬ 33554432 < x) (h3 : ¬ y < -33554432) (h4 : ¬ 33554432 < y) : nearB x y = true := by
  simp only [nearB, inB, Bool.and_eq_true, decide_eq_true_eq]; omega

theorem ret_int {a b : Int} (h : a = b) : Ending.returned (.int .i64 a) = .returned (.int .i64 b) := by rw [h]

end Go.Proofs.Ytmhgfikcnhoknaa

/-
  The program's WindOf, Covers and CountOf.
-/
namespace Go.Proofs.Ytmhgfikcnhoknaa
open Go.RowKit
set_option linter.unusedVariables false

/-- One point in a row. -/
theorem one_arg {w : World} {x y : Int} {b : Nat} {t : TypeId} (h : w.heap[b]? = some (.cells #[.int .i64 x, .int .i64 y] t (0, 0))) :
    ∀ i, i < 1 → PtArg w (some ⟨b, 0, none⟩) i ((fun _ => (x, y)) i : Pt) := by
  intro i hi
  obtain ⟨r0, r1⟩ := row2 h
  match i, hi with
  | 0, _ => exact ⟨_, _, rfl, r0, r1⟩
theorem one_near {x y : Int} : nearB x y = true ↔ ∀ i, i < 1 → nearB ((fun _ => (x, y)) i : Pt).1 ((fun _ => (x, y)) i : Pt).2 = true :=
  ⟨fun h _ _ => h, fun h => h 0 (by omega)⟩

end Go.Proofs.Ytmhgfikcnhoknaa

/-
  The program's pointsAt and MaskAt.
-/
namespace Go.Proofs.Ytmhgfikcnhoknaa
open Go.RowKit
set_option linter.unusedVariables false

theorem row8 {w1 : World} {b : Nat} {x0 x1 x2 x3 x4 x5 x6 x7 : Value} {t : TypeId} (h : w1.heap[b]? = some (.cells #[x0, x1, x2, x3, x4, x5, x6, x7] t (0, 0))) : w1.cell? ⟨b, 0, none⟩ = some x0 ∧ w1.cell? ⟨b, 1, none⟩ = some x1 ∧ w1.cell? ⟨b, 2, none⟩ = some x2 ∧ w1.cell? ⟨b, 3, none⟩ = some x3 ∧ w1.cell? ⟨b, 4, none⟩ = some x4 ∧ w1.cell? ⟨b, 5, none⟩ = some x5 ∧ w1.cell? ⟨b, 6, none⟩ = some x6 ∧ w1.cell? ⟨b, 7, none⟩ = some x7 := by
  refine ⟨?_, ?_, ?_, ?_, ?_, ?_, ?_, ?_⟩ <;> simp [World.cell?, h]

theorem mask_in {N : Nat} {ln : Nat → Nat} {pf : Nat → Nat → Pt} {even : Bool} {x y : Int} (hx : -2000 ≤ x ∧ x ≤ 2000) (hy : -2000 ≤ y ∧ y ≤ 2000) : maskP N ln pf even x y = maskN N ln pf even x y 4 := by
  unfold maskP; rw [if_pos]; rw [Bool.and_eq_true, inB_true, inB_true]; exact ⟨hx, hy⟩
theorem mask_out {N : Nat} {ln : Nat → Nat} {pf : Nat → Nat → Pt} {even : Bool} {x y : Int} (h : x < -2000 ∨ 2000 < x ∨ y < -2000 ∨ 2000 < y) : maskP N ln pf even x y = 0 := by
  unfold maskP; rw [if_neg]; rw [Bool.and_eq_true, inB_true, inB_true]; omega

end Go.Proofs.Ytmhgfikcnhoknaa

/-
  The program's MaskOf.
-/
namespace Go.Proofs.Ytmhgfikcnhoknaa
open Go.RowKit
set_option linter.unusedVariables false

theorem put5_oth {u : World} {b q : Nat} {o : Obj} (h : u.heap[q]? = some o) (hne : q ≠ b) (x y z s t : Value) : (((((u.setCell ⟨b, 0, none⟩ x).setCell ⟨b, 1, none⟩ y).setCell ⟨b, 2, none⟩ z).setCell ⟨b, 3, none⟩ s).setCell ⟨b, 4, none⟩ t).heap[q]? = some o :=
  setc_other hne (setc_other hne (setc_other hne (setc_other hne (setc_other hne h))))
/-- A blank mask that is kept in a variable of the caller's. -/
theorem ByS.begin {w w1 w2 : World} {b2 b4 g : Nat} {a b c d : Int} {N : Nat} (R2 : w1.heap[b2]? = some (.cells #[.int .i64 a, .int .i64 b, .int .i64 c, .int .i64 d] 28 (0, 0))) (R4 : w1.heap[b4]? = some (.cells #[.int .i64 0, .int .i64 0, .int .i64 0, .int .i64 0, .slice none 0 0] 30 (0, 0))) (HB : Below w.heap.size w w1)
    (own : ∃ xs, w2.ownsRow g 3 1 (.slice (some ⟨g, 0, none⟩) N N) N xs ∧ IxAt xs (fun _ => 0) N) (hb : Below w1.heap.size w1 w2) :
    ByS w (w2.alloc (.cells #[.int .i64 a, .int .i64 b, .int .i64 c, .int .i64 d, .slice (some ⟨g, 0, none⟩) N N] 30)) b2 b4 w2.heap.size g a b c d N (fun _ => 0) := by
  obtain ⟨xs, o, x⟩ := own
  exact ⟨row_next (al1_below _ _) (row_next hb R2), row_next (al1_below _ _) (row_next hb R4), new_row _ _, ⟨xs, o.alloc _, x⟩, below_new _ (below_two HB hb) (Nat.le_refl _)⟩
/-- It is handed back. -/
theorem ByS.res {w u : World} {b2 b4 b6 g : Nat} {a b c d : Int} {N : Nat} {f : Nat → Int} (h : ByS w u b2 b4 b6 g a b c d N f) (hw : w.heap.size ≤ g) (h4 : w.heap.size ≤ b4) (h5 : b4 ≠ g) {v0 v1 v2 v3 v4 : Value} :
    ∃ p cp, Ending.returned (.agg #[.int .i64 a, .int .i64 b, .int .i64 c, .int .i64 d, .slice (some ⟨g, 0, none⟩) N N]) = .returned (.agg #[.int .i64 a, .int .i64 b, .int .i64 c, .int .i64 d, .slice p N cp]) ∧ IntsV (((((u.setCell ⟨b4, 0, none⟩ v0).setCell ⟨b4, 1, none⟩ v1).setCell ⟨b4, 2, none⟩ v2).setCell ⟨b4, 3, none⟩ v3).setCell ⟨b4, 4, none⟩ v4) w.heap.size (.slice p N cp) N f ∧ Below w.heap.size w (((((u.setCell ⟨b4, 0, none⟩ v0).setCell ⟨b4, 1, none⟩ v1).setCell ⟨b4, 2, none⟩ v2).setCell ⟨b4, 3, none⟩ v3).setCell ⟨b4, 4, none⟩ v4) := by
  obtain ⟨xs, o, x⟩ := h.own
  exact ⟨_, _, rfl, ⟨xs, own_low (own_put5 o (fun k hk => by simp [Value.ownBlock] at hk; omega) _ _ _ _ _) hw, x⟩, below_put5 h.bel h4 _ _ _ _ _⟩
theorem ix_is {xs : List Value} {f : Nat → Int} {n : Nat} (h : IxAt xs f n) (hl : xs.length = n) : xs = (listN f n).map Iv := by
  apply List.ext_getElem?
  intro j
  by_cases hj : j < n
  · rw [h j hj]; simp [listN, hj, Iv]
  · rw [List.getElem?_eq_none (by omega), List.getElem?_eq_none (by simp [listN]; omega)]
theorem maskRes_of {w w' : World} {r : Ending} {a b c d : Int} {n : Nat} {f : Nat → Int} (h : ∃ p cp, r = .returned (.agg #[.int .i64 a, .int .i64 b, .int .i64 c, .int .i64 d, .slice p n cp]) ∧ IntsV w' w.heap.size (.slice p n cp) n f ∧ Below w.heap.size w w') : MaskRes w r w' a b c d n f := by
  obtain ⟨p, cp, h1, ⟨xs, o, x⟩, h3⟩ := h
  refine ⟨p, cp, h1, ?_, h3⟩
  rw [← ix_is x (by have := o.1; omega)]; exact o
theorem row_place {a b c : Int} {W0 : Nat} (hW : (W0 : Int) = c - a) (j : Nat) : (placeI a b c a (b + (j : Int))).toNat = j * W0 := by
  unfold placeI
  rw [show b + (j : Int) - b = (j : Int) by omega, ← hW, ← Int.natCast_mul]; omega
/-- Filled as far as k. -/
def upto (f : Nat → Int) (k i : Nat) : Int := if i < k then f i else 0
theorem upto_more (f : Nat → Int) (k i : Nat) : (if i = k then f k else upto f k i) = upto f (k + 1) i := by
  unfold upto
  by_cases h : i = k
  · subst h; simp
  · by_cases h2 : i < k
    · rw [if_neg h, if_pos h2, if_pos (by omega)]
    · rw [if_neg h, if_neg h2, if_neg (by omega)]
theorem upto_all {f : Nat → Int} {k : Nat} : ∀ i, i < k → upto f k i = f i := fun i hi => if_pos hi
theorem ByS.fill {w u : World} {b2 b4 b6 g : Nat} {a b c d : Int} {N : Nat} {f : Nat → Int} {k : Nat} (h : ByS w u b2 b4 b6 g a b c d N (upto f k)) (hw : w.heap.size ≤ g) (h2 : b2 < g) (h4 : b4 < g) (h6 : b6 < g ∨ g < b6) (hk : k < N) {z : Int} (hz : f k = z) : ByS w (u.setCell ⟨g, k, none⟩ (.int .i64 z)) b2 b4 b6 g a b c d N (upto f (k + 1)) := by
  obtain ⟨xs, o, x⟩ := h.own
  subst hz
  exact ⟨setc_other (by omega) h.box, setc_other (by omega) h.zero, setc_other (by omega) h.row, ⟨_, (o.stored k _).1, ix_congr (ix_set x (by have := o.1; omega)) (fun i _ => upto_more f k i)⟩, h.bel.setCell (p := ⟨g, k, none⟩) hw _⟩

end Go.Proofs.Ytmhgfikcnhoknaa

/-
  The walk of the program's MeetBox.
-/
namespace Go.Proofs.Ytmhgfikcnhoknaa
open Go.RowKit

theorem most_max (a b : Int) : mostI a b = max a b := by unfold mostI; rw [Int.max_def]; split <;> split <;> omega
theorem least_min (a b : Int) : leastI a b = min a b := by unfold leastI; rw [Int.min_def]; split <;> split <;> omega

set_option maxHeartbeats 4000000 in
set_option maxRecDepth 100000 in
theorem implMeetBox_any (a b c d e f g h : Int) (w : World) :
    Calls Try.prog 29 #[.agg #[.int .i64 a, .int .i64 b, .int .i64 c, .int .i64 d], .agg #[.int .i64 e, .int .i64 f, .int .i64 g, .int .i64 h]] w fun r w' => r = .returned (.agg #[.int .i64 (meet0 a b c d e f g h), .int .i64 (meet1 a b c d e f g h), .int .i64 (meet2 a b c d e f g h), .int .i64 (meet3 a b c d e f g h)]) ∧ Below w.heap.size w w' := by
  unfold meet0 meet1 meet2 meet3 meetNo
  rw [most_max, most_max, least_min, least_min]
  have HE := hide (implEmpty_any (max a e) (max b f) (min c g) (min d h))
  generalize emptyB (max a e) (max b f) (min c g) (min d h) = p at HE ⊢
  go_enter Try.func29, Try.ntmps29
  go_wp2_with fail
  obtain ⟨W, hW⟩ : ∃ W, W = (((w.alloc (.cells #[.int .i64 a, .int .i64 b, .int .i64 c, .int .i64 d] 28)).alloc (.cells #[.int .i64 e, .int .i64 f, .int .i64 g, .int .i64 h] 28)).alloc (.cells #[.int .i64 0, .int .i64 0, .int .i64 0, .int .i64 0] 28)).alloc (.cells #[.int .i64 (max a e), .int .i64 (max b f), .int .i64 (min c g), .int .i64 (min d h)] 28) := ⟨_, rfl⟩
  have R : W.heap[w.heap.size + 1 + 1]? = some (.cells #[.int .i64 0, .int .i64 0, .int .i64 0, .int .i64 0] 28 (0, 0)) := by rw [hW]; exact al4_2 _ _ _ _ _
  have Q : W.heap[w.heap.size + 1 + 1 + 1]? = some (.cells #[.int .i64 (max a e), .int .i64 (max b f), .int .i64 (min c g), .int .i64 (min d h)] 28 (0, 0)) := by rw [hW]; exact al4_3 _ _ _ _ _
  have HB := hide (show Below w.heap.size w W by rw [hW]; exact al4_below _ _ _ _ _)
  rw [← hW]
  clear hW
  go_fit (unhide HE _)
  rintro r w1 ⟨rfl, hb⟩
  replace R := row_next hb R
  replace Q := row_next hb Q
  replace HB := hide (below_two (unhide HB) hb)
  clear hb
  obtain ⟨r0, r1, r2, r3⟩ := row4 R
  obtain ⟨f0, f1, f2, f3⟩ := free4 R
  obtain ⟨q0, q1, q2, q3⟩ := row4 Q
  cases p
  · go_wp2_with fail
    refine bodyPost_ret (v := .agg #[.int .i64 (max a e), .int .i64 (max b f), .int .i64 (min c g), .int .i64 (min d h)]) (by simp [results, Try.results29, go_sem, r0, r1, r2, r3]) rfl ⟨rfl, ?_⟩
    exact below_put4 (unhide HB) (by omega) _ _ _ _
  · go_wp2_with fail
    refine bodyPost_ret (v := .agg #[.int .i64 0, .int .i64 0, .int .i64 0, .int .i64 0]) (by simp [results, Try.results29, go_sem, r0, r1, r2, r3]) rfl ⟨rfl, ?_⟩
    exact below_put4 (unhide HB) (by omega) _ _ _ _
end Go.Proofs.Ytmhgfikcnhoknaa

/-
  What two masks meet in, row by row: what the program's MeetMask goes by.
-/
namespace Go.Proofs.Ytmhgfikcnhoknaa
open Go.RowKit
set_option linter.unusedVariables false

theorem to16 {x : Int} (h : 0 ≤ x ∧ x ≤ 15) : x = 0 ∨ x = 1 ∨ x = 2 ∨ x = 3 ∨ x = 4 ∨ x = 5 ∨ x = 6 ∨ x = 7 ∨ x = 8 ∨ x = 9 ∨ x = 10 ∨ x = 11 ∨ x = 12 ∨ x = 13 ∨ x = 14 ∨ x = 15 := by omega
theorem and_both {x y : Int} (hx : 0 ≤ x ∧ x ≤ 15) (hy : 0 ≤ y ∧ y ≤ 15) : bothI x y = bits BinOp.and IntKind.i64 x y := by
  rcases to16 hx with rfl | rfl | rfl | rfl | rfl | rfl | rfl | rfl | rfl | rfl | rfl | rfl | rfl | rfl | rfl | rfl <;>
  rcases to16 hy with rfl | rfl | rfl | rfl | rfl | rfl | rfl | rfl | rfl | rfl | rfl | rfl | rfl | rfl | rfl | rfl <;>
  kernel_rfl
/-- Where two right masks meet in something, both have a box of their own, and it lies in both. -/
theorem meet_within {a b c d e f g h : Int} {n m : Nat} {F G : Nat → Int} (h1 : MOk a b c d n F) (h2 : MOk e f g h m G) (hm : meetNo a b c d e f g h = false) {p0 p1 p2 p3 : Int} (e0 : meet0 a b c d e f g h = p0) (e1 : meet1 a b c d e f g h = p1) (e2 : meet2 a b c d e f g h = p2) (e3 : meet3 a b c d e f g h = p3) :
    boxInB p0 p1 p2 p3 = true ∧ (boxInB a b c d = true ∧ sqN a b c d = n ∧ 0 < n) ∧ (boxInB e f g h = true ∧ sqN e f g h = m ∧ 0 < m) ∧ (a ≤ p0 ∧ p2 ≤ c ∧ b ≤ p1 ∧ p3 ≤ d) ∧ (e ≤ p0 ∧ p2 ≤ g ∧ f ≤ p1 ∧ p3 ≤ h) := by
  have hb : boxInB p0 p1 p2 p3 = true := by
    rcases meet_in h1 h2 with h | h
    · exfalso
      unfold meet0 meet1 meet2 meet3 at h
      rw [hm] at h
      simp only [cond_false] at h
      unfold meetNo at hm
      rw [h.1, h.2.1, h.2.2.1, h.2.2.2] at hm
      exact absurd hm (by decide)
    · rw [e0, e1, e2, e3] at h; exact h
  unfold meet0 at e0; unfold meet1 at e1; unfold meet2 at e2; unfold meet3 at e3
  rw [hm] at e0 e1 e2 e3
  simp only [cond_false] at e0 e1 e2 e3
  have p1' := most_is a e
  have p2' := most_is b f
  have p3' := least_is c g
  have p4' := least_is d h
  rw [e0] at p1'; rw [e1] at p2'; rw [e2] at p3'; rw [e3] at p4'
  have hbb := boxIn_iff.1 hb
  refine ⟨hb, ?_, ?_, by omega, by omega⟩
  · rcases h1 with ⟨_, rfl, rfl, rfl, rfl⟩ | ⟨h3, h1, h4, _⟩
    · omega
    · exact ⟨h1, h4.symm, h3⟩
  · rcases h2 with ⟨_, rfl, rfl, rfl, rfl⟩ | ⟨h3, h2, h4, _⟩
    · omega
    · exact ⟨h2, h4.symm, h3⟩
theorem at_place {a b c d p0 y : Int} {F : Nat → Int} {t : Nat} (hb : boxInB a b c d = true) (hy : b ≤ y ∧ y < d) (hx : a ≤ p0 ∧ p0 + (t : Int) < c) : atI a b c d F (p0 + (t : Int)) y = F ((placeI a b c p0 y).toNat + t) := by
  have hin : inBoxB a b c d (p0 + (t : Int)) y = true := by
    unfold inBoxB
    rw [decide_eq_true (by omega), decide_eq_true (by omega), decide_eq_true (by omega), decide_eq_true (by omega)]; rfl
  have h0 := (stretch (x0 := p0) (x1 := p0 + (t : Int) + 1) hb hy (by omega)).1
  unfold atI
  rw [if_pos hin]
  congr 1
  have e : placeI a b c (p0 + (t : Int)) y = placeI a b c p0 y + (t : Int) := by unfold placeI; omega
  rw [e]; omega

/-- Rows that are met already, the row under way (met as far as t, the first mask's from there on), nothing behind it. -/
def mixF (mf A : Nat → Int) (k0 W0 t i : Nat) : Int := if i < k0 + t then mf i else if i < k0 + W0 then A (i - k0) else 0
theorem mix_more (mf A : Nat → Int) (k0 W0 t i : Nat) (ht : t < W0) : (if i = k0 + t then mf (k0 + t) else mixF mf A k0 W0 t i) = mixF mf A k0 W0 (t + 1) i := by
  unfold mixF
  by_cases h : i = k0 + t
  · subst h; rw [if_pos rfl, if_pos (by omega)]
  · rw [if_neg h]
    by_cases h2 : i < k0 + t
    · rw [if_pos h2, if_pos (by omega)]
    · rw [if_neg h2, if_neg (show ¬ i < k0 + (t + 1) by omega)]
theorem mix_at (mf A : Nat → Int) (k0 W0 t : Nat) (ht : t < W0) : mixF mf A k0 W0 t (k0 + t) = A t := by
  unfold mixF; rw [if_neg (by omega), if_pos (by omega)]; congr 1; omega
theorem mix_end (mf A : Nat → Int) (k0 W0 i : Nat) : mixF mf A k0 W0 W0 i = upto mf (k0 + W0) i := by
  unfold mixF upto
  by_cases h : i < k0 + W0
  · rw [if_pos h, if_pos h]
  · rw [if_neg h, if_neg h, if_neg h]
/-- The row's cells. -/
theorem own_block {u : World} {g N : Nat} {xs : List Value} (o : u.ownsRow g 3 1 (.slice (some ⟨g, 0, none⟩) N N) N xs) : u.heap[g]? = some (.cells xs.toArray 3 (0, 0)) ∧ xs.length = N := by
  obtain ⟨hl, h | ⟨g', cap, cur, hv, _, hg, _, _, hs, ht⟩⟩ := o
  · cases h.1
  · cases hv
    refine ⟨?_, by omega⟩
    rw [hg]
    have : cur.toList = xs := by rw [← ht]; rw [List.take_of_length_le (by simp [hs])]
    rw [← this]
theorem own_of_block {u : World} {g N : Nat} {xs : List Value} (h : u.heap[g]? = some (.cells xs.toArray 3 (0, 0))) (hl : xs.length = N) (hm : N ≤ maxLen) : u.ownsRow g 3 1 (.slice (some ⟨g, 0, none⟩) N N) N xs :=
  ⟨by omega, .inr ⟨g, N, xs.toArray, rfl, Nat.le_refl _, h, Nat.le_refl _, hm, by simp [hl], by simp; exact List.take_of_length_le (by omega)⟩⟩
def cutV (A : Nat → Int) (W0 : Nat) : List Value := (listN A W0).map Iv
theorem cutV_len (A : Nat → Int) (W0 : Nat) : (cutV A W0).length = W0 := by simp [cutV, listN]
theorem cutV_get (A : Nat → Int) (W0 j : Nat) (hj : j < W0) : (cutV A W0)[j]? = some (.int .i64 (A j)) := by simp [cutV, listN, hj, Iv]
theorem splice_ix {xs : List Value} {f A : Nat → Int} {N k0 W0 : Nat} (hx : IxAt xs (upto f k0) N) (hl : xs.length = N) (hk : k0 + W0 ≤ N) : IxAt (splice xs k0 (cutV A W0)) (mixF f A k0 W0 0) N := by
  intro j hj
  unfold splice
  rw [cutV_len]
  by_cases h1 : j < k0
  · rw [List.getElem?_append_left (by simp; omega), List.getElem?_take, if_pos h1, hx j hj]
    unfold upto mixF; rw [if_pos h1, if_pos (by omega)]
  · rw [List.getElem?_append_right (by simp; omega)]
    have e1 : (List.take k0 xs).length = k0 := by simp; omega
    rw [e1]
    by_cases h2 : j < k0 + W0
    · rw [List.getElem?_append_left (by rw [cutV_len]; omega), cutV_get _ _ _ (by omega)]
      unfold mixF; rw [if_neg (by omega), if_pos h2]
    · rw [List.getElem?_append_right (by rw [cutV_len]; omega), cutV_len, List.getElem?_drop, show k0 + W0 + (j - k0 - W0) = j by omega, hx j hj]
      unfold upto mixF; rw [if_neg (by omega), if_neg (by omega), if_neg h2]
end Go.Proofs.Ytmhgfikcnhoknaa
