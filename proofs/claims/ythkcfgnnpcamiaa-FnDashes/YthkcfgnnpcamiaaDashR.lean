/-
  The program's dashWalk: turning at a point, and the way along a piece.
-/
import Derived.Test.YthkcfgnnpcamiaaDashQ
import Derived.Deep.LoopGhost
namespace Go.Proofs.Ythkcfgnnpcamiaa
open Go.RowKit
set_option linter.unusedVariables false

/-- A point was put onto the stretch; the walk's own fields are still as they were. -/
theorem DW.point {w u u' : World} {p : Nat} {da : Option Addr} {m dc k : Nat} {z : Int} {v v4 v5 : Value} {D : List (List Pt)} {l : List Pt} {vs : List Value} {B : Nat} {x y : Int} (h : DW w u p da m dc k z v v4 D l vs B) (ho : u'.ownsRow B 29 2 v5 (l ++ [(x, y)]).length (ptsV (l ++ [(x, y)]))) (hg : (u.alloc (.cells #[.int .i64 x, .int .i64 y] 29)).grownBy u' v4.ownBlock) :
    u'.heap[p]? = some (dwRow da m dc k z v v4) ∧ w.heap.size ≤ p ∧ Str w u' v v5 D (l ++ [(x, y)]) vs B :=
  let ⟨h1, h2⟩ := h.str.grow ho hg; ⟨h2 _ _ _ _ h.row (by decide), h.lop, h1⟩

set_option maxHeartbeats 4000000 in
set_option maxRecDepth 100000 in
theorem turnAt_any {w u : World} {p : Nat} {da : Option Addr} {m dc k : Nat} {z : Int} {v v4 : Value} {D : List (List Pt)} {l : List Pt} {vs : List Value} {B : Nat} {ds : Nat → Int} (x y : Int) (hm : m = 2 ∨ m = 4) (hk : k < m) (hz : -40000 ≤ z ∧ z ≤ 40000) (hds : ∀ i, i < m → 1 ≤ ds i ∧ ds i ≤ 20000) (V : ∀ i, i < m → IntAt w da i (ds i)) (hl : l.length ≤ 1048000) (hD : D.length ≤ 4300000000000) (h : DW w u p da m dc k z v v4 D l vs B) :
    Calls Try.prog 54 #[.pointer (some ⟨p, 0, none⟩), .agg #[.int .i64 x, .int .i64 y]] u fun r u' => r = .returned (.tuple #[]) ∧ ∃ v' v4' vs' B', DW w u' p da m dc ((k + 1) % m) (z + ds ((k + 1) % m)) v' v4' (if k % 2 = 0 then (if bigL (l ++ [(x, y)]) = true then D ++ [l ++ [(x, y)]] else D) else D) (if k % 2 = 0 then [] else l ++ [(x, y)]) vs' B' ∧ Leaves p u u' v v4 v' v4' := by
  obtain ⟨i1, hi1, hz1, hs1, hb1⟩ := info_parts infoPoint
  obtain ⟨av, cv, e1⟩ := own_form h.str.out
  subst e1
  obtain ⟨al, cl, e1⟩ := own_form h.str.now
  subst e1
  have EN := hide (fun (v v4 : Value) D l vs B (u : World) h => nextDash_any (w := w) (u := u) (p := p) (da := da) (m := m) (dc := dc) (k := k) (x := z) (v := v) (v4 := v4) (D := D) (l := l) (vs := vs) (B := B) hm hk hz hds V h)
  have hl2 : (l ++ [(x, y)]).length ≤ 1048576 := by simp; omega
  have ED := hide (fun (v v4 : Value) D l vs B (u : World) b hb h => drawn_any (w := w) (u := u) (p := p) (da := da) (m := m) (dc := dc) (k := k) (x := z) (v := v) (v4 := v4) (D := D) (l := l) (vs := vs) (B := B) (by omega) h b hb)
  have EE := hide (fun (v v4 : Value) vs B (u : World) h => endStretch_any (w := w) (u := u) (p := p) (da := da) (m := m) (dc := dc) (k := k) (x := z) (v := v) (v4 := v4) (D := D) (l := l ++ [(x, y)]) (vs := vs) (B := B) hl2 hD h)
  have hll : Hid (l.length ≤ 1048000) := hl
  clear hm hk hz hds V hl2 hD
  obtain ⟨D', hD'⟩ : ∃ D', Hid (D' = if k % 2 = 0 then (if bigL (l ++ [(x, y)]) = true then D ++ [l ++ [(x, y)]] else D) else D) := ⟨_, rfl⟩
  obtain ⟨l', hl'⟩ : ∃ l', Hid (l' = if k % 2 = 0 then [] else l ++ [(x, y)]) := ⟨_, rfl⟩
  rw [← unhide hD', ← unhide hl']
  go_enter Try.func54, Try.ntmps54
  go_wp2_with fail
  have H := hide (h.next (al1_below u (.cells #[.int .i64 x, .int .i64 y] 29)))
  have A := hide (new_row u (.cells #[.int .i64 x, .int .i64 y] 29))
  have L0 : Hid (Leaves p u (u.alloc (.cells #[.int .i64 x, .int .i64 y] 29)) (.slice av D.length cv) (.slice al l.length cl) (.slice av D.length cv) (.slice al l.length cl)) := Leaves.next (al1_below _ _)
  generalize hb0 : u.heap.size = b0 at A ⊢
  generalize u.alloc (.cells #[.int .i64 x, .int .i64 y] 29) = W at H A L0 ⊢
  clear h hb0
  obtain ⟨_, _, _, c3, c4, fr⟩ := (unhide H).cells
  have f3 := fr 3
  clear fr
  obtain ⟨a0, a1⟩ := row2 (unhide A)
  have n3 := fun o => kn o c3
  have m0 := fun o => kn o a0
  have m1 := fun o => kn o a1
  go_wp2_with fail
  go_region_law (first | (refine step_append_pl (wr := W) rfl _ _ 30 (by rfl) B i1 (.agg #[.int .i64 0, .int .i64 0]) 16 Try.underlying30 hi1 hz1 hs1 hb1 rfl _ l (by rfl) (unhide H).str.now x y 1 (by rfl) (by unfold maxLen; omega) (by omega) (unhide H).str.hi ?_; intro v6 w6 ho hg hat; have L6 : Hid (Leaves p W w6 (.slice av D.length cv) (.slice al l.length cl) (.slice av D.length cv) v6) := Leaves.now hg hat; clear hat; have G6 := hide ((unhide H).point ho hg); obtain ⟨a6, n6, c6, rfl⟩ := own_form3 ho; clear ho hg; obtain ⟨r0, r1, r2, r3, r4, fr6⟩ := dw_cells (unhide G6).1; have s3 := fr6 3; clear fr6 r0 r1 r2) | (refine step_append_pl (wr := W.drew) rfl _ _ 30 (by rfl) B i1 (.agg #[.int .i64 0, .int .i64 0]) 16 Try.underlying30 hi1 hz1 hs1 hb1 rfl _ l (by rfl) (unhide H).drew.str.now x y 1 (by rfl) (by unfold maxLen; omega) (by omega) (unhide H).str.hi ?_; intro v6 w6 ho hg hat; have L6 : Hid (Leaves p W w6 (.slice av D.length cv) (.slice al l.length cl) (.slice av D.length cv) v6) := Leaves.undrew (Leaves.now hg hat); clear hat; have G6 := hide ((unhide H).drew.point ho hg); obtain ⟨a6, n6, c6, rfl⟩ := own_form3 ho; clear ho hg; obtain ⟨r0, r1, r2, r3, r4, fr6⟩ := dw_cells (unhide G6).1; have s3 := fr6 3; clear fr6 r0 r1 r2))
  all_goals
    have G7 := hide (dw_now (unhide G6))
    have L7 := hide ((unhide L0).trans ((unhide L6).trans (Leaves.set p 3 w6 (.slice a6 n6 c6) (.slice av D.length cv) (.slice a6 n6 c6) _ _ rfl rfl)))
    clear c3 c4 f3 a0 a1 n3 m0 m1 r3 r4 s3 H A G6
    generalize w6.setCell ⟨p, 3, none⟩ (.slice a6 n6 c6) = U at G7 L7 ⊢
    by_cases hk : k % 2 = 0
    · replace hD' := hide ((unhide hD').trans (if_pos hk))
      replace hl' := hide ((unhide hl').trans (if_pos hk))
      go_wp2_with fail
      go_fit (unhide ED _ _ _ _ _ _ _ true (by rw [decide_eq_true hk]) (unhide G7))
      rintro r w7 ⟨rfl, rfl⟩
      go_wp2_with fail
      go_fit (unhide EE _ _ _ _ _ (unhide G7))
      rintro r w8 ⟨rfl, v8, vs8, B8, G8, L8⟩
      replace L8 := hide ((unhide L7).trans L8)
      replace G8 := hide G8
      go_wp2_with fail
      go_fit (unhide EN _ _ _ _ _ _ _ (unhide G8))
      rintro r w9 ⟨rfl, G9, L9⟩
      replace G9 := hide G9
      replace L9 := hide ((unhide L8).trans L9)
      go_wp2_with fail
      go_end0
      exact ⟨rfl, _, _, _, _, by rw [unhide hD', unhide hl']; exact unhide G9, unhide L9⟩
    · replace hD' := hide ((unhide hD').trans (if_neg hk))
      replace hl' := hide ((unhide hl').trans (if_neg hk))
      go_wp2_with fail
      go_fit (unhide ED _ _ _ _ _ _ _ false (by rw [decide_eq_false hk]) (unhide G7))
      rintro r w7 ⟨rfl, rfl⟩
      go_wp2_with fail
      go_fit (unhide EN _ _ _ _ _ _ _ (unhide G7))
      rintro r w9 ⟨rfl, G9, L9⟩
      replace G9 := hide G9
      replace L9 := hide ((unhide L7).trans L9)
      go_wp2_with fail
      go_end0
      exact ⟨rfl, _, _, _, _, by rw [unhide hD', unhide hl']; exact unhide G9, unhide L9⟩
end Go.Proofs.Ythkcfgnnpcamiaa
