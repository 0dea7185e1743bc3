/-
  samePoints and sameLines of the laws.
-/
import Derived.Test.YthkcfgnnpcamiaaLinesL
import Derived.Test.YthkcfgnnpcamiaaPlaceI
namespace Go.Proofs.Ythkcfgnnpcamiaa
open Go.RowKit
set_option linter.unusedVariables false

attribute [local go_sem ↓] eqlPoint in
set_option maxHeartbeats 4000000 in
set_option maxRecDepth 100000 in
theorem samePoints_any (f : Nat → Int × Int) (ao bo : Option Addr) (n cap cap' : Nat) (hn : n ≤ 1048576) (w : World) (HA : ∀ i, i < n → PtArg w ao i (f i)) (HB : ∀ i, i < n → PtArg w bo i (f i)) :
    Calls Try.prog 14 #[.slice ao n cap, .slice bo n cap'] w fun r w' => r = .returned (.bool true) ∧ Below w.heap.size w w' := by
  replace HA := hide HA
  replace HB := hide HB
  go_enter Try.func14, Try.ntmps14
  go_wp2_with fail
  go_loopw [5] (fun i u => ∃ k : Nat, k ≤ n ∧ i = .int .i64 k ∧ Below w.heap.size w u) (fun i _ => n - (intOf i).toNat)
  case atStart => exact ⟨0, Nat.zero_le _, rfl, Below.refl _ _⟩
  case round =>
    obtain ⟨k, hk, rfl, hb⟩ := hrel
    by_cases hlt : k < n
    · have HP := (unhide HA k hlt).next hb
      have HQ := (unhide HB k hlt).next hb
      generalize f k = z at HP HQ
      obtain ⟨x, y⟩ := z
      obtain ⟨s, o, rfl, g0, g1⟩ := HP
      obtain ⟨s', o', rfl, h0, h1⟩ := HQ
      dsimp only at g0 g1 h0 h1
      replace hb := hide hb
      go_upto_region 6 with fail
      obtain ⟨I, F, hI, F1, F2⟩ := kept_worlds wr
      have a0 : ∀ i, (F i).cell? ⟨s, o + k * 2, none⟩ = some (.int .i64 x) := fun i => kc (F2 i) g0
      have a1 : ∀ i, (F i).cell? ⟨s, o + k * 2 + 1, none⟩ = some (.int .i64 y) := fun i => kc (F2 i) g1
      have b0 : ∀ i, (F i).cell? ⟨s', o' + k * 2, none⟩ = some (.int .i64 x) := fun i => kc (F2 i) h0
      have b1 : ∀ i, (F i).cell? ⟨s', o' + k * 2 + 1, none⟩ = some (.int .i64 y) := fun i => kc (F2 i) h1
      clear g0 g1 h0 h1
      replace F1 := hide F1
      replace F2 := hide F2
      refine wp_region_quiet_in (unhide F1) (by kernel_rfl) (by kernel_rfl) ?_
      repeat (go_big_quiet_step (fail))
      refine wpQuiet_nil ?_
      rintro _ ⟨i, rfl⟩
      have hF := unhide F2 i
      clear F1 a0 a1 b0 b1
      go_wp2_with fail
      go_roundw
      case rel => exact ⟨k + 1, by omega, by go_num, below_two (unhide hb) hF⟩
      case measure => simp [intOf]; omega
    · have hke : k = n := by omega
      subst hke
      replace hb := hide hb
      go_wp2_with fail
      go_ret
      exact ⟨rfl, unhide hb⟩

set_option maxHeartbeats 4000000 in
set_option maxRecDepth 100000 in
theorem sameLines_any (L : List (List Pt)) (a b : Option Addr) (n c d base base' : Nat) (hn : n = L.length) (hL : L.length ≤ 4300000000000) (hl : ∀ l ∈ L, l.length ≤ 400000) (w : World) (h : LinesV w base (.slice a n c) L) (h' : LinesV w base' (.slice b n d) L) :
    Calls Try.prog 15 #[.slice a n c, .slice b n d] w fun r w' => r = .returned (.bool true) ∧ Below w.heap.size w w' := by
  obtain ⟨vs, o1, k1⟩ := h
  obtain ⟨vs', o2, k2⟩ := h'
  rw [← hn] at o1 o2
  replace o1 := hide o1
  replace o2 := hide o2
  replace k1 := hide k1
  replace k2 := hide k2
  replace hl := hide hl
  replace hn := hide hn
  go_enter Try.func15, Try.ntmps15
  go_wp2_with fail
  go_loopw [5] (fun i u => ∃ k : Nat, k ≤ n ∧ i = .int .i64 k ∧ Below w.heap.size w u) (fun i _ => n - (intOf i).toNat)
  case atStart => exact ⟨0, Nat.zero_le _, rfl, Below.refl _ _⟩
  case round =>
    obtain ⟨k, hk, rfl, hb⟩ := hrel
    by_cases hlt : k < n
    · have hkL : k < L.length := by rw [← unhide hn]; exact hlt
      obtain ⟨g, _, e1, _, _⟩ := own_at (unhide o1) (by omega)
      cases e1
      obtain ⟨g', _, e2, _, _⟩ := own_at (unhide o2) (by omega)
      cases e2
      obtain ⟨x, cx, _, g0, ox⟩ := line_at (unhide o1) (unhide k1) (unhide hn) hkL
      obtain ⟨y, cy, _, g1, oy⟩ := line_at (unhide o2) (unhide k2) (unhide hn) hkL
      have hlk := unhide hl _ (List.getElem_mem hkL)
      have E := hide (fun u (hu : Below w.heap.size w u) => samePoints_any (listP L[k]) x y L[k].length cx cy (by omega) u (fun i hi => (own_pxa ox (px_list _) i hi).next hu) (fun i hi => (own_pxa oy (px_list _) i hi).next hu))
      generalize L[k].length = m at g0 g1 E
      have HB := hide hb
      have k0 : ∀ u, Below wr.heap.size wr u → (u.cell? ⟨g, k, none⟩ = some (.slice x m cx) ∧ u.cell? ⟨g', k, none⟩ = some (.slice y m cy) ∧ Below wr.heap.size wr u) := fun u h => ⟨kc h (kc hb g0), kc h (kc hb g1), h⟩
      have kS : ∀ u, (u.cell? ⟨g, k, none⟩ = some (.slice x m cx) ∧ u.cell? ⟨g', k, none⟩ = some (.slice y m cy) ∧ Below wr.heap.size wr u) → Below wr.heap.size wr u := fun u h => h.2.2
      clear hb ox oy hlk g0 g1
      replace k0 := hide k0
      go_upto_region 6 with fail
      go_region_held3 (fun u => u.cell? ⟨g, k, none⟩ = some (.slice x m cx) ∧ u.cell? ⟨g', k, none⟩ = some (.slice y m cy) ∧ Below wr.heap.size wr u) ((with_reducible refine unhide k0 _ ?_; first | with_reducible exact (Below.refl _ _).drew | with_reducible assumption)) (first | (go_at_call 14; go_fit (unhide E _ (below_two (unhide HB) (kS _ (by with_reducible assumption)))); rintro r w4 ⟨rfl, hb4⟩; have hW4 := below_after hb4 (kS _ (by with_reducible assumption)) (Nat.le_refl _)))
      all_goals
        have hW9 := kS _ (by with_reducible assumption)
        go_wp2_with fail
        go_roundw
        case rel => exact ⟨k + 1, by omega, by go_num, below_two (unhide HB) hW9⟩
        case measure => simp [intOf]; omega
    · have hke : k = n := by omega
      subst hke
      replace hb := hide hb
      go_wp2_with fail
      go_ret
      exact ⟨rfl, unhide hb⟩

end Go.Proofs.Ythkcfgnnpcamiaa
