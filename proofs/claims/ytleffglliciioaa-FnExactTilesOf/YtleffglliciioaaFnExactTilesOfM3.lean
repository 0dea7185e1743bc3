/-
  BoxRow · BxL · IdsV · TileE · DivI: texts of one claim, in one.
-/
import Derived.Test.YtleffglliciioaaFnExactTilesOfM1
import Derived.Test.YtleffglliciioaaFnExactTilesOfM2
import Derived.Deep.RegionHeld3
import Derived.Deep.DeepCutAuto
import Derived.Deep.DeepFit

/-
  Rows of boxes that are made and written one by one.
-/
namespace Go.Proofs.Ytleffglliciioaa
open Go.RowKit

/-- The first k boxes of a row are those of G. -/
def BxAt (xs : List Value) (G : Nat → B4) (k : Nat) : Prop := ∀ j, j < k → xs[j * 4]? = some (.int .i64 (G j).x0) ∧ xs[j * 4 + 1]? = some (.int .i64 (G j).y0) ∧ xs[j * 4 + 2]? = some (.int .i64 (G j).x1) ∧ xs[j * 4 + 3]? = some (.int .i64 (G j).y1)
theorem BxAt.step {xs : List Value} {G : Nat → B4} {k : Nat} (h : BxAt xs G k) (hk : k * 4 + 4 ≤ xs.length) :
    BxAt ((((xs.set (k * 4) (.int .i64 (G k).x0)).set (k * 4 + 1) (.int .i64 (G k).y0)).set (k * 4 + 2) (.int .i64 (G k).x1)).set (k * 4 + 3) (.int .i64 (G k).y1)) G (k + 1) := by
  intro j hj
  by_cases hjk : j = k
  · subst hjk
    refine ⟨?_, ?_, ?_, ?_⟩ <;> simp [List.getElem?_set] <;> omega
  · obtain ⟨h0, h1, h2, h3⟩ := h j (by omega)
    refine ⟨?_, ?_, ?_, ?_⟩
    · rw [List.getElem?_set_ne (by omega), List.getElem?_set_ne (by omega), List.getElem?_set_ne (by omega), List.getElem?_set_ne (by omega)]; exact h0
    · rw [List.getElem?_set_ne (by omega), List.getElem?_set_ne (by omega), List.getElem?_set_ne (by omega), List.getElem?_set_ne (by omega)]; exact h1
    · rw [List.getElem?_set_ne (by omega), List.getElem?_set_ne (by omega), List.getElem?_set_ne (by omega), List.getElem?_set_ne (by omega)]; exact h2
    · rw [List.getElem?_set_ne (by omega), List.getElem?_set_ne (by omega), List.getElem?_set_ne (by omega), List.getElem?_set_ne (by omega)]; exact h3

theorem own_cell4 {w : World} {base t g n cap k : Nat} {xs : List Value} (h : w.ownsRow base t 4 (.slice (some ⟨g, 0, none⟩) n cap) n xs) (hk : k < n) :
    ∃ v0 v1 v2 v3, w.cell? ⟨g, k * 4, none⟩ = some v0 ∧ w.cell? ⟨g, k * 4 + 1, none⟩ = some v1 ∧ w.cell? ⟨g, k * 4 + 2, none⟩ = some v2 ∧ w.cell? ⟨g, k * 4 + 3, none⟩ = some v3 := by
  have hl := h.1
  refine ⟨xs[k * 4]'(by omega), xs[k * 4 + 1]'(by omega), xs[k * 4 + 2]'(by omega), xs[k * 4 + 3]'(by omega), ?_, ?_, ?_, ?_⟩
  all_goals rw [h.cellAt _ (by omega)]; exact List.getElem?_eq_getElem _
theorem own_put4 {w : World} {base t g n cap k : Nat} {xs : List Value} (h : w.ownsRow base t 4 (.slice (some ⟨g, 0, none⟩) n cap) n xs) (x y z u : Value) :
    ((((w.setCell ⟨g, k * 4, none⟩ x).setCell ⟨g, k * 4 + 1, none⟩ y).setCell ⟨g, k * 4 + 2, none⟩ z).setCell ⟨g, k * 4 + 3, none⟩ u).ownsRow base t 4 (.slice (some ⟨g, 0, none⟩) n cap) n ((((xs.set (k * 4) x).set (k * 4 + 1) y).set (k * 4 + 2) z).set (k * 4 + 3) u) :=
  ((((h.stored _ _).1.stored _ _).1.stored _ _).1.stored _ _).1
theorem below_at4 {B : Nat} {a w : World} (h : Below B a w) {b : Nat} (hb : B ≤ b) (o0 o1 o2 o3 : Nat) (x y z u : Value) : Below B a ((((w.setCell ⟨b, o0, none⟩ x).setCell ⟨b, o1, none⟩ y).setCell ⟨b, o2, none⟩ z).setCell ⟨b, o3, none⟩ u) :=
  (((h.setCell (p := ⟨b, o0, none⟩) hb x).setCell (p := ⟨b, o1, none⟩) hb y).setCell (p := ⟨b, o2, none⟩) hb z).setCell (p := ⟨b, o3, none⟩) hb u
end Go.Proofs.Ytleffglliciioaa

/-
  The laws' own words on lists of boxes: handed over, measured, held against each other, marked. (Made of RunL.)
-/
namespace Go.Proofs.Ytleffglliciioaa
open Go.RowKit
set_option linter.unusedVariables false

theorem infoBoxB : (Try.prog.info? 25).map (fun i => (i.zero, i.size, i.bytes)) = some (some (.agg #[.int .i64 0, .int .i64 0, .int .i64 0, .int .i64 0]), 4, 32) := by kernel_rfl
theorem own_bxaB {w : World} {base t n cap : Nat} {a : Option Addr} {xs : List Value} {G : Nat → B4} (h : w.ownsRow base t 4 (.slice a n cap) n xs) (hx : BxAt xs G n) : ∀ i, i < n → RnAt w a i (G i) := by
  intro i hi
  obtain ⟨g, c, e, _, _⟩ := own_at h (by omega)
  cases e
  obtain ⟨h0, h1, h2, h3⟩ := hx i hi
  refine ⟨g, 0, rfl, ?_, ?_, ?_, ?_⟩
  · rw [Nat.zero_add, h.cellAt _ (by omega)]; exact h0
  · rw [Nat.zero_add, h.cellAt _ (by omega)]; exact h1
  · rw [Nat.zero_add, h.cellAt _ (by omega)]; exact h2
  · rw [Nat.zero_add, h.cellAt _ (by omega)]; exact h3

theorem szBoxS_any (ao : Option Addr) (n cap : Nat) (z : Int) (hz : 0 ≤ z ∧ z ≤ 1048576) (hm : n ≤ maxLen) (w : World) :
    Calls Try.prog 12 #[.slice ao n cap, .int .i64 z] w fun r w' => r = .returned (.int .i64 (if z < n then -1 else z - n)) ∧ w' = w := by
  have hw : IntKind.i64.wrap (z - (n : Int)) = z - n := IntWalk.i64_in _ (by unfold maxLen at hm; omega)
  by_cases hlt : z < n
  · have h0 : z - (n : Int) < 0 := by omega
    rw [if_pos hlt]
    go_enter Try.func12, Try.ntmps12
    go_wp2
    go_ret
    exact ⟨rfl, rfl⟩
  · have h0 : ¬ z - (n : Int) < 0 := by omega
    rw [if_neg hlt]
    go_enter Try.func12, Try.ntmps12
    go_wp2
    go_ret
    exact ⟨rfl, rfl⟩

set_option maxHeartbeats 2000000 in
theorem toBoxS_own (f : Nat → B4) (ao : Option Addr) (n cap : Nat) (hn : n ≤ 1048576) (w : World) (H : ∀ i, i < n → RnAt w ao i (f i)) :
    Calls Try.prog 14 #[.slice ao n cap] w fun r w' => r = .returned (.slice (some ⟨w.heap.size, 0, none⟩) n n) ∧ (∃ xs, w'.ownsRow w.heap.size 25 4 (.slice (some ⟨w.heap.size, 0, none⟩) n n) n xs ∧ BxAt xs f n) ∧ Below w.heap.size w w' := by
  obtain ⟨i0, hi, hz0, hz1, hz2⟩ := info_parts infoBoxB
  have HH := hide H
  clear H
  go_enter Try.func14, Try.ntmps14
  go_wp2_with (at_make; go_must (refine wpList_make_full w rfl _ _ 33 rfl w.heap.size 25 i0 (.agg #[.int .i64 0, .int .i64 0, .int .i64 0, .int .i64 0]) 4 Try.underlying33 hi hz0 hz1 .i64 .i64 _ _ n (by rfl) (by rfl) (by omega) (by omega) (by rw [hz2]; omega) (by unfold maxLen; omega) (Nat.le_refl _) ?_); intro w1 hown1 hg1)
  have B1 : Below w.heap.size w w1 := (Below.refl _ w).grown hg1 (Nat.le_refl _) (by simp)
  clear hg1
  go_loopw [4] (fun i u => ∃ (k : Nat) (xs : List Value), k ≤ n ∧ i = .int .i64 k ∧ u.ownsRow w.heap.size 25 4 (.slice (some ⟨w.heap.size, 0, none⟩) n n) n xs ∧ Hid (BxAt xs f k) ∧ Below w.heap.size w u) (fun i _ => n - (intOf i).toNat)
  case atStart => exact ⟨0, _, Nat.zero_le _, rfl, hown1, fun j hj => absurd hj (by omega), B1⟩
  case round =>
    obtain ⟨k, xs, hk, rfl, hown, HX, hb⟩ := hrel
    clear hown1 B1
    have O := hide hown
    by_cases hlt : k < n
    · have HP := (unhide HH k hlt).next hb
      have hst := hide ((unhide HX).step (by have := hown.1; omega))
      generalize f k = p at HP hst
      obtain ⟨x, y, z, t⟩ := p
      obtain ⟨s, o, rfl, g0, g1, g2, g3⟩ := HP
      dsimp only at g0 g1 g2 g3
      have HB := hide hb
      clear hb hown
      have E := hide (toBox_any x y z t)
      go_wp2_with fail
      go_fit (unhide E _)
      rintro r w2 ⟨rfl, hb⟩
      replace O := hide (own_below (unhide O) hb)
      replace HB := hide (below_two (unhide HB) hb)
      clear hb g0 g1 g2 g3
      obtain ⟨v0, v1, v2, v3, c0, c1, c2, c3⟩ := own_cell4 (unhide O) hlt
      have f0 := (unhide O).frozenAt (k * 4)
      have f1 := (unhide O).frozenAt (k * 4 + 1)
      have f2 := (unhide O).frozenAt (k * 4 + 2)
      have f3 := (unhide O).frozenAt (k * 4 + 3)
      go_wp2_with fail
      go_roundw
      case rel => exact ⟨k + 1, _, by omega, by go_num, own_put4 (unhide O) _ _ _ _, hst, below_at4 (unhide HB) (Nat.le_refl _) _ _ _ _ _ _ _ _⟩
      case measure => simp [intOf]; omega
    · have hke : k = n := by omega
      subst hke
      have hp := hide (show ∃ xs, wr.ownsRow w.heap.size 25 4 (.slice (some ⟨w.heap.size, 0, none⟩) k k) k xs ∧ BxAt xs f k from ⟨xs, hown, unhide HX⟩)
      have HB := hide hb
      clear hb hown O HX
      go_wp2_with fail
      go_ret
      exact ⟨rfl, unhide hp, unhide HB⟩

set_option maxHeartbeats 2000000 in
theorem eqBoxS_arg (f : Nat → B4) (ao bo : Option Addr) (n cap cap' : Nat) (hn : n ≤ 1048576) (w : World) (HA : ∀ i, i < n → RnAt w ao i (f i)) (HB : ∀ i, i < n → RnAt w bo i (f i)) :
    Calls Try.prog 17 #[.slice ao n cap, .slice bo n cap'] w fun r w' => r = .returned (.bool true) ∧ Below w.heap.size w w' := by
  replace HA := hide HA
  replace HB := hide HB
  go_enter Try.func17, Try.ntmps17
  go_wp2_with fail
  go_loopw [5] (fun i u => ∃ k : Nat, k ≤ n ∧ i = .int .i64 k ∧ Below w.heap.size w u) (fun i _ => n - (intOf i).toNat)
  case atStart => exact ⟨0, Nat.zero_le _, rfl, Below.refl _ _⟩
  case round =>
    obtain ⟨k, hk, rfl, hb⟩ := hrel
    by_cases hlt : k < n
    · have HP := (unhide HA k hlt).next hb
      have HQ := (unhide HB k hlt).next hb
      generalize f k = p at HP HQ
      obtain ⟨x, y, z, t⟩ := p
      obtain ⟨s, o, rfl, g0, g1, g2, g3⟩ := HP
      obtain ⟨s', o', rfl, h0, h1, h2, h3⟩ := HQ
      dsimp only at g0 g1 g2 g3 h0 h1 h2 h3
      replace hb := hide hb
      have E := hide (eqBox_same x y z t)
      go_wp2_with fail
      obtain ⟨I, F, hI, F1, F2⟩ := kept_worlds wr
      have a0 : ∀ i, (F i).cell? ⟨s, o + k * 4, none⟩ = some (.int .i64 x) := fun i => kc (F2 i) g0
      have a1 : ∀ i, (F i).cell? ⟨s, o + k * 4 + 1, none⟩ = some (.int .i64 y) := fun i => kc (F2 i) g1
      have a2 : ∀ i, (F i).cell? ⟨s, o + k * 4 + 2, none⟩ = some (.int .i64 z) := fun i => kc (F2 i) g2
      have a3 : ∀ i, (F i).cell? ⟨s, o + k * 4 + 3, none⟩ = some (.int .i64 t) := fun i => kc (F2 i) g3
      have b0 : ∀ i, (F i).cell? ⟨s', o' + k * 4, none⟩ = some (.int .i64 x) := fun i => kc (F2 i) h0
      have b1 : ∀ i, (F i).cell? ⟨s', o' + k * 4 + 1, none⟩ = some (.int .i64 y) := fun i => kc (F2 i) h1
      have b2 : ∀ i, (F i).cell? ⟨s', o' + k * 4 + 2, none⟩ = some (.int .i64 z) := fun i => kc (F2 i) h2
      have b3 : ∀ i, (F i).cell? ⟨s', o' + k * 4 + 3, none⟩ = some (.int .i64 t) := fun i => kc (F2 i) h3
      clear g0 g1 g2 g3 h0 h1 h2 h3
      replace F1 := hide F1
      replace F2 := hide F2
      refine wp_region_quiet_in (unhide F1) (by kernel_rfl) (by kernel_rfl) ?_
      repeat (go_big_quiet_step (with_reducible exact quiet_in (unhide F1) (unhide F2) (unhide E _)))
      refine wpQuiet_nil ?_
      rintro _ ⟨i, rfl⟩
      have hF := unhide F2 i
      clear F1 a0 a1 a2 a3 b0 b1 b2 b3
      go_wp2_with fail
      go_roundw
      case rel => exact ⟨k + 1, by omega, by go_num, below_two (unhide hb) hF⟩
      case measure => simp [intOf]; omega
    · have hke : k = n := by omega
      subst hke
      go_wp2_with fail
      go_ret
      exact ⟨rfl, hb⟩

set_option maxHeartbeats 2000000 in
theorem markBoxS_any (v : Value) (base n k : Nat) (xs : List Value) (hk : k ≤ 10000000) (hn : n ≤ 1048576) (w : World) (hv : w.ownsRow base 25 4 v n xs) :
    Calls Try.prog 18 #[v, .int .i64 k] w fun r w' => r = .returned (.int .i64 ((k + n * 4 : Nat) : Int)) ∧ (∃ ys, w'.ownsRow base 25 4 v n ys ∧ Ramp ys k (n * 4)) ∧ w.grownBy w' v.ownBlock := by
  obtain ⟨p, cap, rfl⟩ := own_form hv
  have hp := fun h => own_at hv h
  have HV := hide hv
  clear hv
  go_enter Try.func18, Try.ntmps18
  go_wp2
  go_loopw [1, 5] (fun t i wr => ∃ (j : Nat) (ys : List Value), j ≤ n ∧ i = .int .i64 j ∧ t = .int .i64 ((k + j * 4 : Nat) : Int) ∧ wr.ownsRow base 25 4 (.slice p n cap) n ys ∧ Hid (Ramp ys k (j * 4)) ∧ w.grownBy wr (Value.slice p n cap).ownBlock) (fun _ i _ => n - (intOf i).toNat)
  case atStart => exact ⟨0, _, Nat.zero_le _, rfl, rfl, unhide HV, fun j hj => absurd hj (by omega), World.grownBy.refl _ _⟩
  case round =>
    obtain ⟨j, ys, hj, rfl, rfl, hown, HR, hgr⟩ := hrel
    have HO := hide hown
    have HG := hide hgr
    by_cases hlt : j < n
    · obtain ⟨g, cap', e, _, _⟩ := hp (by omega)
      cases e
      have hlen : j * 4 + 3 < ys.length := by have := hown.1; omega
      have c0 : wr.cell? ⟨g, j * 4, none⟩ = some ys[j * 4] := by rw [hown.cellAt _ (by omega)]; exact List.getElem?_eq_getElem _
      have f0 := hown.frozenAt (j * 4)
      have o1 := (hown.stored (j * 4) (.int .i64 ((k + j * 4 : Nat) : Int))).1
      have c1 : (wr.setCell ⟨g, j * 4, none⟩ (.int .i64 ((k + j * 4 : Nat) : Int))).cell? ⟨g, j * 4 + 1, none⟩ = some ys[j * 4 + 1] := by rw [o1.cellAt _ (by omega), List.getElem?_set_ne (by omega)]; exact List.getElem?_eq_getElem _
      have f1 := o1.frozenAt (j * 4 + 1)
      have o2 := (o1.stored (j * 4 + 1) (.int .i64 (((k + j * 4 : Nat) : Int) + 1))).1
      have c2 : ((wr.setCell ⟨g, j * 4, none⟩ (.int .i64 ((k + j * 4 : Nat) : Int))).setCell ⟨g, j * 4 + 1, none⟩ (.int .i64 (((k + j * 4 : Nat) : Int) + 1))).cell? ⟨g, j * 4 + 2, none⟩ = some ys[j * 4 + 2] := by rw [o2.cellAt _ (by omega), List.getElem?_set_ne (by omega), List.getElem?_set_ne (by omega)]; exact List.getElem?_eq_getElem _
      have f2 := o2.frozenAt (j * 4 + 2)
      have o3 := (o2.stored (j * 4 + 2) (.int .i64 (((k + j * 4 : Nat) : Int) + 1 + 1))).1
      have c3 : (((wr.setCell ⟨g, j * 4, none⟩ (.int .i64 ((k + j * 4 : Nat) : Int))).setCell ⟨g, j * 4 + 1, none⟩ (.int .i64 (((k + j * 4 : Nat) : Int) + 1))).setCell ⟨g, j * 4 + 2, none⟩ (.int .i64 (((k + j * 4 : Nat) : Int) + 1 + 1))).cell? ⟨g, j * 4 + 3, none⟩ = some ys[j * 4 + 3] := by rw [o3.cellAt _ (by omega), List.getElem?_set_ne (by omega), List.getElem?_set_ne (by omega), List.getElem?_set_ne (by omega)]; exact List.getElem?_eq_getElem _
      have f3 := o3.frozenAt (j * 4 + 3)
      have O3 := hide o3
      have hst := hide (((((unhide HR).step (by omega)).step (by rw [List.length_set]; omega)).step (by rw [List.length_set, List.length_set]; omega)).step (by rw [List.length_set, List.length_set, List.length_set]; exact hlen))
      have G3 := hide (grown_trans (grown_trans (grown_trans hgr (hown.stored (j * 4) (.int .i64 ((k + j * 4 : Nat) : Int))).2) (o1.stored (j * 4 + 1) (.int .i64 (((k + j * 4 : Nat) : Int) + 1))).2) (o2.stored (j * 4 + 2) (.int .i64 (((k + j * 4 : Nat) : Int) + 1 + 1))).2)
      have e1 : ((k + (j * 4 + 1) : Nat) : Int) = ((k + j * 4 : Nat) : Int) + 1 := by omega
      have e2 : ((k + (j * 4 + 1 + 1) : Nat) : Int) = ((k + j * 4 : Nat) : Int) + 1 + 1 := by omega
      have e3 : ((k + (j * 4 + 1 + 1 + 1) : Nat) : Int) = ((k + j * 4 : Nat) : Int) + 1 + 1 + 1 := by omega
      rw [e1, e2, e3] at hst
      change Hid (Ramp ((((ys.set (j * 4) (.int .i64 ((k + j * 4 : Nat) : Int))).set (j * 4 + 1) (.int .i64 (((k + j * 4 : Nat) : Int) + 1))).set (j * 4 + 2) (.int .i64 (((k + j * 4 : Nat) : Int) + 1 + 1))).set (j * 4 + 3) (.int .i64 (((k + j * 4 : Nat) : Int) + 1 + 1 + 1))) k (j * 4 + 4)) at hst
      clear hown hgr o1 o2 o3 e1 e2 e3
      generalize hq : ((k + j * 4 : Nat) : Int) = q at c1 f1 c2 f2 c3 f3 O3 hst G3 ⊢
      have hq0 : 0 ≤ q ∧ q ≤ 4100000000000000000 := by omega
      have hw1 : IntKind.i64.wrap (q + 1) = q + 1 := IntWalk.i64_in _ (by omega)
      have hw2 : IntKind.i64.wrap (q + 1 + 1) = q + 1 + 1 := IntWalk.i64_in _ (by omega)
      have hw3 : IntKind.i64.wrap (q + 1 + 1 + 1) = q + 1 + 1 + 1 := IntWalk.i64_in _ (by omega)
      have hw4 : IntKind.i64.wrap (q + 1 + 1 + 1 + 1) = q + 1 + 1 + 1 + 1 := IntWalk.i64_in _ (by omega)
      replace hq := hide hq
      go_wp2_with fail
      go_roundw
      case rel => exact ⟨j + 1, _, by omega, by go_num, by rw [← unhide hq]; go_num, ((unhide O3).stored (j * 4 + 3) _).1, by have := unhide hst; rw [show (j + 1) * 4 = j * 4 + 4 by omega]; exact this, grown_trans (unhide G3) ((unhide O3).stored (j * 4 + 3) _).2⟩
      case measure => simp [intOf]; omega
    · have hje : j = n := by omega
      subst hje
      clear hown hgr
      go_wp2
      go_ret
      exact ⟨rfl, ⟨ys, unhide HO, unhide HR⟩, unhide HG⟩
end Go.Proofs.Ytleffglliciioaa

/-
  Numbers that are one's own: held, marked, held against each other.
-/
namespace Go.Proofs.Ytleffglliciioaa
open Go.RowKit
set_option linter.unusedVariables false

/-- Numbers that are one's own. -/
def IdV (w : World) (base : Nat) (v : Value) (n : Nat) (f : Nat → Int) : Prop := ∃ xs, w.ownsRow base 3 1 v n xs ∧ IxAt xs f n
def IdM (w : World) (base : Nat) (v : Value) (n : Nat) : Prop := ∃ xs, w.ownsRow base 3 1 v n xs ∧ Ramp xs 1 n
theorem IdV.next {w w' : World} {base n : Nat} {v : Value} {f : Nat → Int} (h : IdV w base v n f) (hb : Below w.heap.size w w') : IdV w' base v n f := let ⟨xs, h1, h2⟩ := h; ⟨xs, own_below h1 hb, h2⟩
theorem IdM.next {w w' : World} {base n : Nat} {v : Value} (h : IdM w base v n) (hb : Below w.heap.size w w') : IdM w' base v n := let ⟨xs, h1, h2⟩ := h; ⟨xs, own_below h1 hb, h2⟩
theorem IdV.lt {w : World} {base n : Nat} {v : Value} {f : Nat → Int} (h : IdV w base v n f) : ∀ k, v.ownBlock = some k → base ≤ k ∧ k < w.heap.size := let ⟨_, h1, _⟩ := h; h1.lt
theorem IdV.at {w : World} {base n c : Nat} {a : Option Addr} {f : Nat → Int} (h : IdV w base (.slice a n c) n f) : ∀ i, i < n → IntAt w a i (f i) := let ⟨_, h1, h2⟩ := h; own_ix h1 h2
theorem IdV.kept {w w' : World} {base n : Nat} {v : Value} {f : Nat → Int} {row : Option Nat} (h : IdV w base v n f) (hg : w.grownBy w' row) (ap : v.ownBlock = none ∨ v.ownBlock ≠ row) : IdV w' base v n f := let ⟨xs, h1, h2⟩ := h; ⟨xs, h1.kept hg ap, h2⟩
def listZ (L : List Int) (j : Nat) : Int := L.getD j 0
theorem IdsRes.open {w w' : World} {r : Ending} {L : List Int} (h : IdsRes w r w' L) : ∃ p cp, r = .returned (.slice p L.length cp) ∧ IdV w' w.heap.size (.slice p L.length cp) L.length (listZ L) ∧ Below w.heap.size w w' := by
  obtain ⟨p, cp, rfl, h1, h2⟩ := h
  refine ⟨p, cp, rfl, ⟨_, h1, fun j hj => ?_⟩, h2⟩
  simp [listZ, Zv, List.getElem?_eq_getElem hj, List.getD]
theorem markI_v (v : Value) (base n : Nat) (f : Nat → Int) (hn : n ≤ 1048576) (w : World) (h : IdV w base v n f) :
    Calls Try.prog 19 #[v, .int .i64 1] w fun r w' => r = .returned (.int .i64 ((1 + n : Nat) : Int)) ∧ IdM w' base v n ∧ w.grownBy w' v.ownBlock :=
  let ⟨xs, h1, _⟩ := h; markIntS_any v base n 1 xs (by omega) hn w h1
theorem heldI_v (v : Value) (base n : Nat) (hn : n ≤ 1048576) (w : World) (h : IdM w base v n) :
    Calls Try.prog 20 #[v, .int .i64 1] w fun r w' => r = .returned (.int .i64 ((1 + n : Nat) : Int)) ∧ Below w.heap.size w w' :=
  let ⟨xs, h1, h2⟩ := h; (heldIntS_yes v base n 1 xs (by omega) hn w h1 h2).mono fun _ _ ⟨e1, e2⟩ => ⟨e1, e2 ▸ Below.refl _ _⟩
end Go.Proofs.Ytleffglliciioaa

/-
  The exact law of TilesOf, from what the program's function answers. (By tilelaw.py.)
-/
namespace Go.Proofs.Ytleffglliciioaa
open Go.RowKit
set_option linter.unusedVariables false

def BoxesV (w : World) (base : Nat) (v : Value) (n : Nat) (G : Nat → B4) : Prop := ∃ xs, w.ownsRow base 25 4 v n xs ∧ BxAt xs G n
def MarkedBx (w : World) (base : Nat) (v : Value) (n : Nat) : Prop := ∃ xs, w.ownsRow base 25 4 v n xs ∧ Ramp xs 1 (n * 4)
theorem BoxesV.next {w w' : World} {base n : Nat} {v : Value} {G : Nat → B4} (h : BoxesV w base v n G) (hb : Below w.heap.size w w') : BoxesV w' base v n G := let ⟨xs, h1, h2⟩ := h; ⟨xs, own_below h1 hb, h2⟩
theorem BoxesV.lt {w : World} {base n : Nat} {v : Value} {G : Nat → B4} (h : BoxesV w base v n G) : ∀ k, v.ownBlock = some k → base ≤ k ∧ k < w.heap.size := let ⟨_, h1, _⟩ := h; h1.lt
theorem BoxesV.at {w : World} {base n c : Nat} {a : Option Addr} {G : Nat → B4} (h : BoxesV w base (.slice a n c) n G) : ∀ i, i < n → RnAt w a i (G i) := let ⟨_, h1, h2⟩ := h; own_bxaB h1 h2
theorem markBoxes_v (v : Value) (base n : Nat) (G : Nat → B4) (hn : n ≤ 1048576) (w : World) (h : BoxesV w base v n G) :
    Calls Try.prog 18 #[v, .int .i64 1] w fun r w' => r = .returned (.int .i64 ((1 + n * 4 : Nat) : Int)) ∧ MarkedBx w' base v n ∧ w.grownBy w' v.ownBlock :=
  let ⟨xs, h1, _⟩ := h; markBoxS_any v base n 1 xs (by omega) hn w h1
theorem toBoxes_v (G : Nat → B4) (ao : Option Addr) (m cap : Nat) (hm : m ≤ 1048576) (w : World) (H : ∀ i, i < m → RnAt w ao i (G i)) :
    Calls Try.prog 14 #[.slice ao m cap] w fun r w' => ∃ s, r = .returned (.slice (some ⟨s, 0, none⟩) m m) ∧ BoxesV w' w.heap.size (.slice (some ⟨s, 0, none⟩) m m) m G ∧ Below w.heap.size w w' :=
  (toBoxS_own G ao m cap hm w H).mono fun _ _ ⟨h1, h2, h3⟩ => ⟨_, h1, h2, h3⟩
theorem apart_idsT {u v : Value} {a b c d : Nat} (h1 : ∀ k, u.ownBlock = some k → a ≤ k ∧ k < b) (h2 : ∀ k, v.ownBlock = some k → c ≤ k ∧ k < d) (h : b ≤ c ∨ d ≤ a) : u.ownBlock = none ∨ u.ownBlock ≠ v.ownBlock := by
  cases hu : u.ownBlock with
  | none => exact .inl rfl
  | some k =>
    refine .inr (fun e => ?_)
    have := h1 k hu
    have := h2 k e.symm
    omega

set_option maxHeartbeats 16000000 in
set_option maxRecDepth 100000 in
theorem fnExactTilesOf_of (EI : ∀ (x y : Int) (hx : (Lit.int .i64 x).wf = true) (hy : (Lit.int .i64 y).wf = true) (G : Nat → B4) (ao : Option Addr) (m cap : Nat) (hm : m ≤ 1048576) (hc : m ≤ cap) (w : World) (P : ∀ i, i < m → RnAt w ao i (G i)), Calls Try.prog 15 #[.int .i64 x, .int .i64 y, .slice ao m cap] w fun r w' => IdsRes w r w' (tilesA x y G m))
    (x y : Int) (ao : Option Addr) (m cap : Nat) (G : Nat → B4) (hx : (Lit.int .i64 x).wf = true) (hy : (Lit.int .i64 y).wf = true) (w : World) (hw : m ≤ maxLen ∧ ∀ i, i < m → RnAt w ao i (G i)) :
    Calls Try.prog 5 #[.int .i64 x, .int .i64 y, .slice ao m cap] w fun r w' => r = .returned (.bool true) ∧ Below w.heap.size w w' := by
  obtain ⟨hml, P⟩ := hw
  have Z := hide (szBoxS_any ao m cap 1048576 (by omega) hml)
  by_cases hbig : (1048576 : Int) < (m : Int)
  · rw [if_pos hbig] at Z
    go_enter Try.func5, Try.ntmps5
    go_wp2_with fail
    go_fit (unhide Z _)
    rintro r w1 ⟨rfl, rfl⟩
    go_wp2_with fail
    go_ret
    exact ⟨rfl, Below.refl _ _⟩
  rw [if_neg hbig] at Z
  have hpos : ¬ ((1048576 : Int) - (m : Int) < 0) := by omega
  have hm : m ≤ 1048576 := by omega
  have Z' := hide (fun u => (unhide Z u).mono fun r w' (h : r = .returned (.int .i64 (1048576 - (m : Int))) ∧ w' = u) => (⟨h.1, h.2 ▸ Below.refl _ _⟩ : r = .returned (.int .i64 (1048576 - (m : Int))) ∧ Below u.heap.size u w'))
  have T := hide (fun u (hu : Below w.heap.size w u) => toBoxes_v G ao m cap hm u (fun i hi => (P i hi).next hu))
  have S := hide (fun (u : World) (s base : Nat) (h : BoxesV u base (.slice (some ⟨s, 0, none⟩) m m) m G) => specTilesOf_any x y G (some ⟨s, 0, none⟩) m m hm u h.at)
  have I := hide (fun (u : World) (s base : Nat) (h : BoxesV u base (.slice (some ⟨s, 0, none⟩) m m) m G) => EI x y hx hy G (some ⟨s, 0, none⟩) m m hm (Nat.le_refl _) u h.at)
  have EB := hide (fun (u : World) (s t base base' : Nat) (h : BoxesV u base (.slice (some ⟨s, 0, none⟩) m m) m G) (h' : BoxesV u base' (.slice (some ⟨t, 0, none⟩) m m) m G) => eqBoxS_arg G (some ⟨s, 0, none⟩) (some ⟨t, 0, none⟩) m m m hm u h.at h'.at)
  have MB := hide (fun (u : World) (s base : Nat) (h : BoxesV u base (.slice (some ⟨s, 0, none⟩) m m) m G) => markBoxes_v _ base m G hm u h)
  have hL := hide (show (tilesA x y G m).length ≤ 1048576 from Nat.le_trans (tiles_le x y G m _) (by have := tc_bd x y; omega))
  generalize tilesA x y G m = L at S I hL
  have ER := hide (fun (u : World) (x y : Option Addr) (cx cy base base' : Nat) (h1 : IdV u base (.slice x L.length cx) L.length (listZ L)) (h2 : IdV u base' (.slice y L.length cy) L.length (listZ L)) => eqIntS_arg (listZ L) x y L.length cx cy (unhide hL) u h1.at h2.at)
  have MR := hide (fun (u : World) (x : Option Addr) (cx base : Nat) (h1 : IdV u base (.slice x L.length cx) L.length (listZ L)) => markI_v _ base L.length (listZ L) (unhide hL) u h1)
  have HR := hide (fun (u : World) (x : Option Addr) (cx base : Nat) (h1 : IdM u base (.slice x L.length cx) L.length) => heldI_v _ base L.length (unhide hL) u h1)
  have hq1 : ¬ (((1 + m * 4 : Nat) : Int) < 0) := by omega
  have hq2 : ¬ (((1 + L.length : Nat) : Int) < 0) := by omega
  generalize ((1 + m * 4 : Nat) : Int) = Q1 at MB hq1
  generalize ((1 + L.length : Nat) : Int) = Q2 at MR HR hq2
  have S' := hide (fun u s base h => (unhide S u s base h).mono fun r w' (hr : IdsRes u r w' L) => hr.open)
  have I' := hide (fun u s base h => (unhide I u s base h).mono fun r w' (hr : IdsRes u r w' L) => hr.open)
  generalize listZ L = ZL at S' I' ER MR
  generalize L.length = N at S' I' ER MR HR hL
  clear P hml hbig hm EI hL Z S I hx hy
  go_enter Try.func5, Try.ntmps5
  go_upto_region 1 with fail
  have HB := hide (Below.refl w.heap.size w)
  obtain ⟨c0, hc0⟩ : ∃ b, b = w.heap.size := ⟨_, rfl⟩
  have CUR := hide (show c0 ≤ w.heap.size by rw [hc0]; exact Nat.le_refl _)
  have ORD := hide (show w.heap.size ≤ c0 ∧ c0 < c0 + 1 by omega)
  clear hc0
  obtain ⟨W0, hW0⟩ : ∃ W, W = w := ⟨_, rfl⟩
  go_wp2_with fail
  go_fit (unhide Z' _)
  rintro r w1 ⟨rfl, hb⟩
  replace CUR := hide (Nat.le_trans (unhide CUR) (Below.size hb))
  replace HB := hide (below_two (unhide HB) hb)
  clear hb
  clear Z'
  go_wp2_with fail
  go_fit (unhide T _ (unhide HB))
  rintro r w2 ⟨s_t, rfl, hp, hb⟩
  have lo0 := CUR
  have lo1 := hide (Below.size hb)
  replace CUR := hide (Nat.le_trans (unhide CUR) (Below.size hb))
  replace HB := hide (below_two (unhide HB) hb)
  clear hb
  obtain ⟨hi_pt, hhi⟩ : ∃ h, h = w2.heap.size := ⟨_, rfl⟩
  replace CUR := hide (show hi_pt ≤ w2.heap.size by rw [hhi]; exact Nat.le_refl _)
  have B_pt := hide (show ∀ k, (Value.ownBlock (.slice (some ⟨s_t, 0, none⟩) m m)) = some k → w1.heap.size ≤ k ∧ k < hi_pt from fun k hk => by rw [hhi]; exact hp.lt k hk)
  rw [← hhi] at lo1
  clear hhi
  have pt := hide hp
  clear hp
  generalize w1.heap.size = lo_pt at pt B_pt lo0 lo1
  replace ORD := hide (And.intro (unhide ORD) (And.intro (unhide lo0) (unhide lo1)))
  clear lo0 lo1
  go_wp2_with fail
  go_fit (unhide S' _ _ _ (unhide pt))
  rintro r w3 ⟨a_0, c_0, rfl, hp, hb⟩
  have lo0 := CUR
  have lo1 := hide (Below.size hb)
  replace pt := hide ((unhide pt).next hb)
  replace CUR := hide (Nat.le_trans (unhide CUR) (Below.size hb))
  replace HB := hide (below_two (unhide HB) hb)
  clear hb
  obtain ⟨hi_p0, hhi⟩ : ∃ h, h = w3.heap.size := ⟨_, rfl⟩
  replace CUR := hide (show hi_p0 ≤ w3.heap.size by rw [hhi]; exact Nat.le_refl _)
  have B_p0 := hide (show ∀ k, (Value.ownBlock (.slice a_0 N c_0)) = some k → w2.heap.size ≤ k ∧ k < hi_p0 from fun k hk => by rw [hhi]; exact hp.lt k hk)
  rw [← hhi] at lo1
  clear hhi
  have p0 := hide hp
  clear hp
  generalize w2.heap.size = lo_p0 at p0 B_p0 lo0 lo1
  replace ORD := hide (And.intro (unhide ORD) (And.intro (unhide lo0) (unhide lo1)))
  clear lo0 lo1
  clear pt
  go_wp2_with fail
  go_fit (unhide T _ (unhide HB))
  rintro r w4 ⟨s_a, rfl, hp, hb⟩
  have lo0 := CUR
  have lo1 := hide (Below.size hb)
  replace p0 := hide ((unhide p0).next hb)
  replace CUR := hide (Nat.le_trans (unhide CUR) (Below.size hb))
  replace HB := hide (below_two (unhide HB) hb)
  clear hb
  obtain ⟨hi_pa, hhi⟩ : ∃ h, h = w4.heap.size := ⟨_, rfl⟩
  replace CUR := hide (show hi_pa ≤ w4.heap.size by rw [hhi]; exact Nat.le_refl _)
  have B_pa := hide (show ∀ k, (Value.ownBlock (.slice (some ⟨s_a, 0, none⟩) m m)) = some k → w3.heap.size ≤ k ∧ k < hi_pa from fun k hk => by rw [hhi]; exact hp.lt k hk)
  rw [← hhi] at lo1
  clear hhi
  have pa := hide hp
  clear hp
  generalize w3.heap.size = lo_pa at pa B_pa lo0 lo1
  replace ORD := hide (And.intro (unhide ORD) (And.intro (unhide lo0) (unhide lo1)))
  clear lo0 lo1
  go_wp2_with fail
  go_fit (unhide I' _ _ _ (unhide pa))
  rintro r w5 ⟨a_g, c_g, rfl, hp, hb⟩
  have lo0 := CUR
  have lo1 := hide (Below.size hb)
  replace p0 := hide ((unhide p0).next hb)
  replace pa := hide ((unhide pa).next hb)
  replace CUR := hide (Nat.le_trans (unhide CUR) (Below.size hb))
  replace HB := hide (below_two (unhide HB) hb)
  clear hb
  obtain ⟨hi_pg, hhi⟩ : ∃ h, h = w5.heap.size := ⟨_, rfl⟩
  replace CUR := hide (show hi_pg ≤ w5.heap.size by rw [hhi]; exact Nat.le_refl _)
  have B_pg := hide (show ∀ k, (Value.ownBlock (.slice a_g N c_g)) = some k → w4.heap.size ≤ k ∧ k < hi_pg from fun k hk => by rw [hhi]; exact hp.lt k hk)
  rw [← hhi] at lo1
  clear hhi
  have pg := hide hp
  clear hp
  generalize w4.heap.size = lo_pg at pg B_pg lo0 lo1
  replace ORD := hide (And.intro (unhide ORD) (And.intro (unhide lo0) (unhide lo1)))
  clear lo0 lo1
  go_wp2_with fail
  go_fit (unhide ER _ _ _ _ _ _ _ (unhide pg) (unhide p0))
  rintro r w6 ⟨rfl, hb⟩
  replace p0 := hide ((unhide p0).next hb)
  replace pa := hide ((unhide pa).next hb)
  replace pg := hide ((unhide pg).next hb)
  replace CUR := hide (Nat.le_trans (unhide CUR) (Below.size hb))
  replace HB := hide (below_two (unhide HB) hb)
  clear hb
  go_wp2_with fail
  go_fit (unhide T _ (unhide HB))
  rintro r w7 ⟨s_v, rfl, hp, hb⟩
  have lo0 := CUR
  have lo1 := hide (Below.size hb)
  replace p0 := hide ((unhide p0).next hb)
  replace pa := hide ((unhide pa).next hb)
  replace pg := hide ((unhide pg).next hb)
  replace CUR := hide (Nat.le_trans (unhide CUR) (Below.size hb))
  replace HB := hide (below_two (unhide HB) hb)
  clear hb
  obtain ⟨hi_pv, hhi⟩ : ∃ h, h = w7.heap.size := ⟨_, rfl⟩
  replace CUR := hide (show hi_pv ≤ w7.heap.size by rw [hhi]; exact Nat.le_refl _)
  have B_pv := hide (show ∀ k, (Value.ownBlock (.slice (some ⟨s_v, 0, none⟩) m m)) = some k → w6.heap.size ≤ k ∧ k < hi_pv from fun k hk => by rw [hhi]; exact hp.lt k hk)
  rw [← hhi] at lo1
  clear hhi
  have pv := hide hp
  clear hp
  generalize w6.heap.size = lo_pv at pv B_pv lo0 lo1
  replace ORD := hide (And.intro (unhide ORD) (And.intro (unhide lo0) (unhide lo1)))
  clear lo0 lo1
  go_wp2_with fail
  go_fit (unhide EB _ _ _ _ _ (unhide pa) (unhide pv))
  rintro r w8 ⟨rfl, hb⟩
  replace p0 := hide ((unhide p0).next hb)
  replace pa := hide ((unhide pa).next hb)
  replace pg := hide ((unhide pg).next hb)
  replace pv := hide ((unhide pv).next hb)
  replace CUR := hide (Nat.le_trans (unhide CUR) (Below.size hb))
  replace HB := hide (below_two (unhide HB) hb)
  clear hb
  clear pv
  go_wp2_with fail
  go_fit (unhide MB _ _ _ (unhide pa))
  rintro r w9 ⟨rfl, hm, hg⟩
  replace p0 := hide ((unhide p0).kept hg (apart_idsT (unhide B_p0) (unhide B_pa) (by have o := unhide ORD; omega)))
  replace pg := hide ((unhide pg).kept hg (apart_idsT (unhide B_pg) (unhide B_pa) (by have o := unhide ORD; omega)))
  replace HB := hide ((unhide HB).grown hg (unhide HB).size (fun k hk => by have h := unhide B_pa _ hk; have o := unhide ORD; omega))
  replace CUR := hide (Nat.le_trans (unhide CUR) hg.size)
  replace pa := hide hm
  clear hm hg
  clear pa
  go_wp2_with fail
  go_fit (unhide ER _ _ _ _ _ _ _ (unhide pg) (unhide p0))
  rintro r w10 ⟨rfl, hb⟩
  replace p0 := hide ((unhide p0).next hb)
  replace pg := hide ((unhide pg).next hb)
  replace CUR := hide (Nat.le_trans (unhide CUR) (Below.size hb))
  replace HB := hide (below_two (unhide HB) hb)
  clear hb
  go_wp2_with fail
  go_fit (unhide MR _ _ _ _ (unhide pg))
  rintro r w11 ⟨rfl, hm, hg⟩
  replace p0 := hide ((unhide p0).kept hg (apart_idsT (unhide B_p0) (unhide B_pg) (by have o := unhide ORD; omega)))
  replace HB := hide ((unhide HB).grown hg (unhide HB).size (fun k hk => by have h := unhide B_pg _ hk; have o := unhide ORD; omega))
  replace CUR := hide (Nat.le_trans (unhide CUR) hg.size)
  replace pg := hide hm
  clear hm hg
  go_wp2_with fail
  go_fit (unhide HR _ _ _ _ (unhide pg))
  rintro r w12 ⟨rfl, hb⟩
  replace p0 := hide ((unhide p0).next hb)
  replace pg := hide ((unhide pg).next hb)
  replace CUR := hide (Nat.le_trans (unhide CUR) (Below.size hb))
  replace HB := hide (below_two (unhide HB) hb)
  clear hb
  go_wp2_with fail
  go_fit (unhide T _ (unhide HB))
  rintro r w13 ⟨s_u, rfl, hp, hb⟩
  have lo0 := CUR
  have lo1 := hide (Below.size hb)
  replace p0 := hide ((unhide p0).next hb)
  replace pg := hide ((unhide pg).next hb)
  replace CUR := hide (Nat.le_trans (unhide CUR) (Below.size hb))
  replace HB := hide (below_two (unhide HB) hb)
  clear hb
  obtain ⟨hi_pu, hhi⟩ : ∃ h, h = w13.heap.size := ⟨_, rfl⟩
  replace CUR := hide (show hi_pu ≤ w13.heap.size by rw [hhi]; exact Nat.le_refl _)
  have B_pu := hide (show ∀ k, (Value.ownBlock (.slice (some ⟨s_u, 0, none⟩) m m)) = some k → w12.heap.size ≤ k ∧ k < hi_pu from fun k hk => by rw [hhi]; exact hp.lt k hk)
  rw [← hhi] at lo1
  clear hhi
  have pu := hide hp
  clear hp
  generalize w12.heap.size = lo_pu at pu B_pu lo0 lo1
  replace ORD := hide (And.intro (unhide ORD) (And.intro (unhide lo0) (unhide lo1)))
  clear lo0 lo1
  go_wp2_with fail
  go_fit (unhide I' _ _ _ (unhide pu))
  rintro r w14 ⟨a_h, c_h, rfl, hp, hb⟩
  have lo0 := CUR
  have lo1 := hide (Below.size hb)
  replace p0 := hide ((unhide p0).next hb)
  replace pu := hide ((unhide pu).next hb)
  replace pg := hide ((unhide pg).next hb)
  replace CUR := hide (Nat.le_trans (unhide CUR) (Below.size hb))
  replace HB := hide (below_two (unhide HB) hb)
  clear hb
  obtain ⟨hi_ph, hhi⟩ : ∃ h, h = w14.heap.size := ⟨_, rfl⟩
  replace CUR := hide (show hi_ph ≤ w14.heap.size by rw [hhi]; exact Nat.le_refl _)
  have B_ph := hide (show ∀ k, (Value.ownBlock (.slice a_h N c_h)) = some k → w13.heap.size ≤ k ∧ k < hi_ph from fun k hk => by rw [hhi]; exact hp.lt k hk)
  rw [← hhi] at lo1
  clear hhi
  have ph := hide hp
  clear hp
  generalize w13.heap.size = lo_ph at ph B_ph lo0 lo1
  replace ORD := hide (And.intro (unhide ORD) (And.intro (unhide lo0) (unhide lo1)))
  clear lo0 lo1
  clear pu
  go_wp2_with fail
  go_fit (unhide ER _ _ _ _ _ _ _ (unhide ph) (unhide p0))
  rintro r w15 ⟨rfl, hb⟩
  replace p0 := hide ((unhide p0).next hb)
  replace ph := hide ((unhide ph).next hb)
  replace pg := hide ((unhide pg).next hb)
  replace CUR := hide (Nat.le_trans (unhide CUR) (Below.size hb))
  replace HB := hide (below_two (unhide HB) hb)
  clear hb
  go_wp2_with fail
  go_fit (unhide HR _ _ _ _ (unhide pg))
  rintro r w16 ⟨rfl, hb⟩
  replace p0 := hide ((unhide p0).next hb)
  replace ph := hide ((unhide ph).next hb)
  replace pg := hide ((unhide pg).next hb)
  replace CUR := hide (Nat.le_trans (unhide CUR) (Below.size hb))
  replace HB := hide (below_two (unhide HB) hb)
  clear hb
  go_wp2_with fail
  go_ret
  exact ⟨rfl, unhide HB⟩
end Go.Proofs.Ytleffglliciioaa

/-
  The walk of the program's divisions: down, and what is left.
-/
namespace Go.Proofs.Ytleffglliciioaa
open Go.RowKit

/-- What a division answers: down, the rest, and by what. -/
def dDown (a b : Int) : Int := if b < 1 then 0 else a / b
def dRest (a b : Int) : Int := if b < 1 then 0 else a % b
def dBy (b : Int) : Int := if b < 1 then 1 else b

theorem rest_neg (a b : Int) (hb : 1 ≤ b) (h : a.tmod b < 0) : a % b = a.tmod b + b := by
  have e := Int.mul_tdiv_add_tmod a b
  have bd := tmod_bd a b hb
  have := (Int.ediv_emod_unique (a := a) (b := b) (r := a.tmod b + b) (q := a.tdiv b - 1) (by omega)).2 ⟨by rw [Int.mul_sub]; omega, by omega, by omega⟩
  exact this.2
theorem rest_pos (a b : Int) (hb : 1 ≤ b) (h : ¬ a.tmod b < 0) : a % b = a.tmod b := by
  have e := Int.mul_tdiv_add_tmod a b
  have bd := tmod_bd a b hb
  have := (Int.ediv_emod_unique (a := a) (b := b) (r := a.tmod b) (q := a.tdiv b) (by omega)).2 ⟨by omega, by omega, by omega⟩
  exact this.2

set_option maxHeartbeats 1000000 in
theorem implDivide_any (a b : Int) (a0 : -9223372036854775808 ≤ a) (a1 : a ≤ 9223372036854775807) (b1 : b ≤ 9223372036854775807) (w : World) :
    Calls Try.prog 43 #[.int .i64 a, .int .i64 b] w fun e w' => e = .returned (.agg #[.int .i64 (dDown a b), .int .i64 (dRest a b), .int .i64 (dBy b)]) ∧ Below w.heap.size w w' := by
  by_cases hb : b < 1
  · have e1 : dDown a b = 0 := by unfold dDown; rw [if_pos hb]
    have e2 : dRest a b = 0 := by unfold dRest; rw [if_pos hb]
    have e3 : dBy b = 1 := by unfold dBy; rw [if_pos hb]
    rw [e1, e2, e3]
    clear e1 e2 e3
    go_enter Try.func43, Try.ntmps43
    go_wp2
    go_region
    all_goals go_wp2
    refine bodyPost_ret (v := .agg #[.int .i64 0, .int .i64 0, .int .i64 1]) (by simp [results, Try.results43, go_sem]) rfl ⟨rfl, ?_⟩
    exact (al2_below _ _ _).drew
  · have hb1 : 1 ≤ b := by omega
    have hb2 : (b == 0) = false := beq_eq_false_iff_ne.2 (by omega)
    have bd := tmod_bd a b hb1
    obtain ⟨bd1, bd2⟩ := bd
    by_cases hr : a.tmod b < 0
    · have e1 : dDown a b = a.tdiv b - 1 := by unfold dDown; rw [if_neg hb, floor_neg a b hb1 hr]
      have e2 : dRest a b = a.tmod b + b := by unfold dRest; rw [if_neg hb, rest_neg a b hb1 hr]
      have e3 : dBy b = b := by unfold dBy; rw [if_neg hb]
      have hf := floor_fit hb1 a0 a1
      rw [floor_neg a b hb1 hr] at hf
      obtain ⟨f1, f2⟩ := hf
      rw [e1, e2, e3]
      clear e1 e2 e3
      go_enter Try.func43, Try.ntmps43
      go_wp2
      go_region
      all_goals go_wp2
      refine bodyPost_ret (v := .agg #[.int .i64 (a.tdiv b - 1), .int .i64 (a.tmod b + b), .int .i64 b]) (by simp [results, Try.results43, go_sem]) rfl ⟨rfl, ?_⟩
      exact (al2_below _ _ _).drew
    · have e1 : dDown a b = a.tdiv b := by unfold dDown; rw [if_neg hb, floor_pos a b hb1 hr]
      have e2 : dRest a b = a.tmod b := by unfold dRest; rw [if_neg hb, rest_pos a b hb1 hr]
      have e3 : dBy b = b := by unfold dBy; rw [if_neg hb]
      rw [e1, e2, e3]
      clear e1 e2 e3
      go_enter Try.func43, Try.ntmps43
      go_wp2
      go_region
      all_goals go_wp2
      refine bodyPost_ret (v := .agg #[.int .i64 (a.tdiv b), .int .i64 (a.tmod b), .int .i64 b]) (by simp [results, Try.results43, go_sem]) rfl ⟨rfl, ?_⟩
      exact (al2_below _ _ _).drew

end Go.Proofs.Ytleffglliciioaa
