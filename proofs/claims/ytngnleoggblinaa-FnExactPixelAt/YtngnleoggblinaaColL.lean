/-
  The laws' own words on lists of colours: handed over, measured, held against each other, marked and held.
-/
import Derived.Test.YtngnleoggblinaaColRow
import Derived.Test.YtngnleoggblinaaPathL
import Derived.Test.YtngnleoggblinaaBoxRow
import Derived.Test.YtngnleoggblinaaPaintL
namespace Go.Proofs.Ytngnleoggblinaa
open Go.RowKit
set_option linter.unusedVariables false

theorem own_bxc {w : World} {base t n cap : Nat} {a : Option Addr} {xs : List Value} {G : Nat → B4} (h : w.ownsRow base t 4 (.slice a n cap) n xs) (hx : BxAt xs G n) : ∀ i, i < n → ClAt w a i (G i) := by
  intro i hi
  obtain ⟨g, c, e, _, _⟩ := own_at h (by omega)
  cases e
  obtain ⟨h0, h1, h2, h3⟩ := hx i hi
  refine ⟨g, 0, rfl, ?_, ?_, ?_, ?_⟩
  · rw [Nat.zero_add, h.cellAt _ (by omega)]; exact h0
  · rw [Nat.zero_add, h.cellAt _ (by omega)]; exact h1
  · rw [Nat.zero_add, h.cellAt _ (by omega)]; exact h2
  · rw [Nat.zero_add, h.cellAt _ (by omega)]; exact h3

theorem szColorS_any (ao : Option Addr) (n cap : Nat) (z : Int) (hz : 0 ≤ z ∧ z ≤ 1048576) (hm : n ≤ maxLen) (w : World) :
    Calls Try.prog 10 #[.slice ao n cap, .int .i64 z] w fun r w' => r = .returned (.int .i64 (if z < n then -1 else z - n)) ∧ w' = w := by
  have hw : IntKind.i64.wrap (z - (n : Int)) = z - n := IntWalk.i64_in _ (by unfold maxLen at hm; omega)
  by_cases hlt : z < n
  · have h0 : z - (n : Int) < 0 := by omega
    rw [if_pos hlt]
    go_enter Try.func10, Try.ntmps10
    go_wp2
    go_ret
    exact ⟨rfl, rfl⟩
  · have h0 : ¬ z - (n : Int) < 0 := by omega
    rw [if_neg hlt]
    go_enter Try.func10, Try.ntmps10
    go_wp2
    go_ret
    exact ⟨rfl, rfl⟩

set_option maxHeartbeats 2000000 in
theorem toColorS_own (f : Nat → B4) (ao : Option Addr) (n cap : Nat) (hn : n ≤ 1048576) (w : World) (H : ∀ i, i < n → ClAt w ao i (f i)) :
    Calls Try.prog 13 #[.slice ao n cap] w fun r w' => r = .returned (.slice (some ⟨w.heap.size, 0, none⟩) n n) ∧ (∃ xs, w'.ownsRow w.heap.size 27 4 (.slice (some ⟨w.heap.size, 0, none⟩) n n) n xs ∧ BxAt xs f n) ∧ Below w.heap.size w w' := by
  obtain ⟨i0, hi, hz0, hz1, hz2⟩ := info_parts infoColor
  have HH := hide H
  clear H
  go_enter Try.func13, Try.ntmps13
  go_wp2_with (at_make; go_must (refine wpList_make_full w rfl _ _ 29 rfl w.heap.size 27 i0 (.agg #[.int .i64 0, .int .i64 0, .int .i64 0, .int .i64 0]) 4 Try.underlying29 hi hz0 hz1 .i64 .i64 _ _ n (by rfl) (by rfl) (by omega) (by omega) (by rw [hz2]; omega) (by unfold maxLen; omega) (Nat.le_refl _) ?_); intro w1 hown1 hg1)
  have B1 : Below w.heap.size w w1 := (Below.refl _ w).grown hg1 (Nat.le_refl _) (by simp)
  clear hg1
  go_loopw [4] (fun i u => ∃ (k : Nat) (xs : List Value), k ≤ n ∧ i = .int .i64 k ∧ u.ownsRow w.heap.size 27 4 (.slice (some ⟨w.heap.size, 0, none⟩) n n) n xs ∧ Hid (BxAt xs f k) ∧ Below w.heap.size w u) (fun i _ => n - (intOf i).toNat)
  case atStart => exact ⟨0, _, Nat.zero_le _, rfl, hown1, fun j hj => absurd hj (by omega), B1⟩
  case round =>
    obtain ⟨k, xs, hk, rfl, hown, HX, hb⟩ := hrel
    clear hown1 B1
    have O := hide hown
    by_cases hlt : k < n
    · have HP := (unhide HH k hlt).next hb
      have hst := hide ((unhide HX).step (by have := hown.1; omega))
      generalize f k = p at HP hst
      obtain ⟨x, y, z, t⟩ := p
      obtain ⟨s, o, rfl, g0, g1, g2, g3⟩ := HP
      dsimp only at g0 g1 g2 g3
      have HB := hide hb
      clear hb hown
      have E := hide (toColor_any x y z t)
      go_wp2_with fail
      go_fit (unhide E _)
      rintro r w2 ⟨rfl, hb⟩
      replace O := hide (own_below (unhide O) hb)
      replace HB := hide (below_two (unhide HB) hb)
      clear hb g0 g1 g2 g3
      obtain ⟨v0, v1, v2, v3, c0, c1, c2, c3⟩ := own_cell4 (unhide O) hlt
      have f0 := (unhide O).frozenAt (k * 4)
      have f1 := (unhide O).frozenAt (k * 4 + 1)
      have f2 := (unhide O).frozenAt (k * 4 + 2)
      have f3 := (unhide O).frozenAt (k * 4 + 3)
      go_wp2_with fail
      go_roundw
      case rel => exact ⟨k + 1, _, by omega, by go_num, own_put4 (unhide O) _ _ _ _, hst, below_at4 (unhide HB) (Nat.le_refl _) _ _ _ _ _ _ _ _⟩
      case measure => simp [intOf]; omega
    · have hke : k = n := by omega
      subst hke
      have hp := hide (show ∃ xs, wr.ownsRow w.heap.size 27 4 (.slice (some ⟨w.heap.size, 0, none⟩) k k) k xs ∧ BxAt xs f k from ⟨xs, hown, unhide HX⟩)
      have HB := hide hb
      clear hb hown O HX
      go_wp2_with fail
      go_ret
      exact ⟨rfl, unhide hp, unhide HB⟩

set_option maxHeartbeats 2000000 in
theorem eqColorS_arg (f : Nat → B4) (ao bo : Option Addr) (n cap cap' : Nat) (hn : n ≤ 1048576) (w : World) (HA : ∀ i, i < n → ClAt w ao i (f i)) (HB : ∀ i, i < n → ClAt w bo i (f i)) :
    Calls Try.prog 18 #[.slice ao n cap, .slice bo n cap'] w fun r w' => r = .returned (.bool true) ∧ Below w.heap.size w w' := by
  replace HA := hide HA
  replace HB := hide HB
  go_enter Try.func18, Try.ntmps18
  go_wp2_with fail
  go_loopw [5] (fun i u => ∃ k : Nat, k ≤ n ∧ i = .int .i64 k ∧ Below w.heap.size w u) (fun i _ => n - (intOf i).toNat)
  case atStart => exact ⟨0, Nat.zero_le _, rfl, Below.refl _ _⟩
  case round =>
    obtain ⟨k, hk, rfl, hb⟩ := hrel
    by_cases hlt : k < n
    · have HP := (unhide HA k hlt).next hb
      have HQ := (unhide HB k hlt).next hb
      generalize f k = p at HP HQ
      obtain ⟨x, y, z, t⟩ := p
      obtain ⟨s, o, rfl, g0, g1, g2, g3⟩ := HP
      obtain ⟨s', o', rfl, h0, h1, h2, h3⟩ := HQ
      dsimp only at g0 g1 g2 g3 h0 h1 h2 h3
      replace hb := hide hb
      have E := hide (eqColor_same x y z t)
      go_wp2_with fail
      obtain ⟨I, F, hI, F1, F2⟩ := kept_worlds wr
      have a0 : ∀ i, (F i).cell? ⟨s, o + k * 4, none⟩ = some (.int .i64 x) := fun i => kc (F2 i) g0
      have a1 : ∀ i, (F i).cell? ⟨s, o + k * 4 + 1, none⟩ = some (.int .i64 y) := fun i => kc (F2 i) g1
      have a2 : ∀ i, (F i).cell? ⟨s, o + k * 4 + 2, none⟩ = some (.int .i64 z) := fun i => kc (F2 i) g2
      have a3 : ∀ i, (F i).cell? ⟨s, o + k * 4 + 3, none⟩ = some (.int .i64 t) := fun i => kc (F2 i) g3
      have b0 : ∀ i, (F i).cell? ⟨s', o' + k * 4, none⟩ = some (.int .i64 x) := fun i => kc (F2 i) h0
      have b1 : ∀ i, (F i).cell? ⟨s', o' + k * 4 + 1, none⟩ = some (.int .i64 y) := fun i => kc (F2 i) h1
      have b2 : ∀ i, (F i).cell? ⟨s', o' + k * 4 + 2, none⟩ = some (.int .i64 z) := fun i => kc (F2 i) h2
      have b3 : ∀ i, (F i).cell? ⟨s', o' + k * 4 + 3, none⟩ = some (.int .i64 t) := fun i => kc (F2 i) h3
      clear g0 g1 g2 g3 h0 h1 h2 h3
      replace F1 := hide F1
      replace F2 := hide F2
      refine wp_region_quiet_in (unhide F1) (by kernel_rfl) (by kernel_rfl) ?_
      repeat (go_big_quiet_step (with_reducible exact quiet_in (unhide F1) (unhide F2) (unhide E _)))
      refine wpQuiet_nil ?_
      rintro _ ⟨i, rfl⟩
      have hF := unhide F2 i
      clear F1 a0 a1 a2 a3 b0 b1 b2 b3
      go_wp2_with fail
      go_roundw
      case rel => exact ⟨k + 1, by omega, by go_num, below_two (unhide hb) hF⟩
      case measure => simp [intOf]; omega
    · have hke : k = n := by omega
      subst hke
      go_wp2_with fail
      go_ret
      exact ⟨rfl, hb⟩

end Go.Proofs.Ytngnleoggblinaa
