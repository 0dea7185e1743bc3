/-
  The specification's copy of a surface.
-/
import Derived.Test.YtmomgbnhildpdabSurfS
import Derived.Test.YtmomgbnhildpdabMoveK
import Derived.Laws.AppendOwnNone
import Derived.Deep.RegionLaw
namespace Go.Proofs.Ytmomgbnhildpdab
open Go.RowKit
set_option linter.unusedVariables false

/-- The values of a list of colours. -/
def colsL (f : Nat → B4) (n : Nat) : List Value := csV ((List.range n).map f)
theorem colsL_len (f : Nat → B4) (n : Nat) : (colsL f n).length = n * 4 := by unfold colsL; rw [csV_len]; simp
theorem colsL_at (f : Nat → B4) (n : Nat) : BxAt (colsL f n) f n := by
  intro j hj
  have h := csV_get ((List.range n).map f) j (by simpa using hj)
  unfold colsL
  simpa using h
theorem colsL_one (f : Nat → B4) (n : Nat) : ∀ u ∈ colsL f n, u.oneCell' = true := by
  intro u hu
  unfold colsL csV at hu
  obtain ⟨p, _, hp⟩ := List.mem_flatMap.1 hu
  simp [clV] at hp
  rcases hp with rfl | rfl | rfl | rfl <;> rfl
theorem add_off (s o j : Nat) : (⟨s, o, none⟩ : Addr).add j = ⟨s, o + j, none⟩ := by unfold Addr.add; split <;> simp_all
theorem colsL_cells {w : World} {s o : Nat} {f : Nat → B4} {n : Nat} (H : ∀ i, i < n → ClAt w (some ⟨s, o, none⟩) i (f i)) : ∀ j u, (colsL f n)[j]? = some u → w.cell? ((⟨s, o, none⟩ : Addr).add j) = some u := by
  intro j u hu
  have hj : j < n * 4 := by have := (List.getElem?_eq_some_iff.1 hu).1; rw [colsL_len] at this; exact this
  have hi : j / 4 < n := by omega
  obtain ⟨s', o', e, g0, g1, g2, g3⟩ := H (j / 4) hi
  cases e
  obtain ⟨h0, h1, h2, h3⟩ := colsL_at f n (j / 4) hi
  rw [add_off]
  have hm : j = j / 4 * 4 + j % 4 := by omega
  have hr : j % 4 = 0 ∨ j % 4 = 1 ∨ j % 4 = 2 ∨ j % 4 = 3 := by omega
  rcases hr with h | h | h | h <;> rw [h] at hm
  · rw [hm, Nat.add_zero] at hu ⊢; rw [h0] at hu; cases hu; exact g0
  · rw [hm] at hu ⊢; rw [h1] at hu; cases hu; rw [← Nat.add_assoc]; exact g1
  · rw [hm] at hu ⊢; rw [h2] at hu; cases hu; rw [← Nat.add_assoc]; exact g2
  · rw [hm] at hu ⊢; rw [h3] at hu; cases hu; rw [← Nat.add_assoc]; exact g3
/-- 'append' of a list of colours, wherever it lies, onto an own one without anything, as one step of a region that draws its order. -/
theorem step_append_cols {P : Program} {ops : Array Oper} {o : Oper} {a : Act} {w : World} {K : Act → World → Prop} {Q : Exit → Act → World → Prop} {E : Prop} (hg : o.guard = none) (s x : Operand) (t : TypeId)
    (hop : o.op = .call { callee := .builtin .append, args := #[s, x], argTypes := #[t, t] })
    (base : Nat) (i : TypeInfo) (z : Value) (ht : P.underlying t = some (.slice 71)) (hi : P.info? 71 = some i) (hz : i.zero = some z) (hsize : i.size = 4) (hby : i.bytes = 32) (hzs : z.cells.size = 4)
    (v : Value) (hs : a.eval s = v) (hown : w.ownsRow base 71 4 v 0 [])
    (ao : Option Addr) (n c : Nat) (f : Nat → B4) (hx : a.eval x = .slice ao n c) (hao : ao = none → c = 0) (H : ∀ i, i < n → ClAt w ao i (f i)) (hn : n ≤ 1048576)
    (w0 : World) (B : Nat) (hB : B ≤ base) (hbase : base ≤ w.heap.size) (hnx : Below B w0 w)
    (hK : ∀ v' w', ColsV w' base v' n f → Below B w0 w' → K (a.put o.dst v') w') :
    if Region.wanted o (yielded ops a.tmps) = true then Oper.wp P o a w K Q else E := by
  have hw : Region.wanted o (yielded ops a.tmps) = true := by simp [Region.wanted, hg]
  cases ao with
  | none =>
    have hn0 : n = 0 := by
      rcases Nat.eq_zero_or_pos n with h | h
      · exact h
      · obtain ⟨_, _, e, _⟩ := H 0 h
        cases e
    obtain rfl := hao rfl
    subst hn0
    rw [if_pos hw]
    have hrun := run_append_owned_none (P := P) (w := w) base t o.type 71 i 4 ht hi v 0 [] hown
    unfold Oper.wp
    simp [execOp, hop, resolve, invoke, builtin, hs, hx, hrun, Result.andThen]
    exact hK _ _ ⟨[], hown, fun j hj => absurd hj (by omega)⟩ hnx
  | some ad =>
    rcases Nat.eq_zero_or_pos n with h0 | h0
    · subst h0
      refine step_append_any hg s x t 71 hop base i z 4 32 ht hi hz hsize hby hzs (by decide) v 0 [] hs hown ad 0 c [] hx rfl (fun j u hu => by simp at hu) (fun u hu => by simp at hu) (by unfold maxLen; omega) (by omega) w0 B hB hbase hnx ?_
      intro v' w' ho hb
      exact hK v' w' ⟨_, ho, fun j hj => absurd hj (by omega)⟩ hb
    · obtain ⟨s0, o0, e, _⟩ := H 0 h0
      cases e
      refine step_append_any hg s x t 71 hop base i z 4 32 ht hi hz hsize hby hzs (by decide) v 0 [] hs hown ⟨s0, o0, none⟩ n c (colsL f n) hx (colsL_len f n) (colsL_cells H) (colsL_one f n) (by unfold maxLen; omega) (by omega) w0 B hB hbase hnx ?_
      intro v' w' ho hb
      rw [Nat.zero_add] at ho
      exact hK v' w' ⟨_, ho, colsL_at f n⟩ hb

set_option maxHeartbeats 8000000 in
set_option maxRecDepth 100000 in
theorem specL14Copy_any (x y : Int) (f : Nat → B4) (ao : Option Addr) (n cp : Nat) (hn : n ≤ 1048576) (hao : ao = none → cp = 0) (w : World) (P : ∀ i, i < n → ClAt w ao i (f i)) :
    Calls Try.prog 38 #[.agg #[.int .i64 x, .int .i64 y, .slice ao n cp]] w fun r w' => SurfRes w r w' x y n f := by
  obtain ⟨i0, hi, hz0, hz1, hz2⟩ := info_parts infoColor
  replace P := hide P
  replace hao := hide hao
  unfold SurfRes
  go_enter Try.func38, Try.ntmps38
  go_upto_region 1 with fail
  have R := hide (al2_0 w (.cells #[.int .i64 x, .int .i64 y, .slice ao n cp] 28) (.cells #[.int .i64 0, .int .i64 0, .slice none 0 0] 28))
  have R2 := hide (al2_1 w (.cells #[.int .i64 x, .int .i64 y, .slice ao n cp] 28) (.cells #[.int .i64 0, .int .i64 0, .slice none 0 0] 28))
  have HB := hide (al2_below w (.cells #[.int .i64 x, .int .i64 y, .slice ao n cp] 28) (.cells #[.int .i64 0, .int .i64 0, .slice none 0 0] 28))
  obtain ⟨b2, hb2⟩ : ∃ b, Hid (b = w.heap.size + 1) := ⟨_, rfl⟩
  obtain ⟨b1, hb1⟩ : ∃ b, Hid (b = w.heap.size) := ⟨_, rfl⟩
  have lz : Hid (w.heap.size ≤ b2 ∧ b1 < b2) := by unfold Hid; rw [unhide hb2, unhide hb1]; omega
  rw [← unhide hb2] at R2
  rw [← unhide hb1] at R
  rw [← unhide hb2, ← unhide hb1]
  generalize (w.alloc (.cells #[.int .i64 x, .int .i64 y, .slice ao n cp] 28)).alloc (.cells #[.int .i64 0, .int .i64 0, .slice none 0 0] 28) = W at R R2 HB ⊢
  clear hb2 hb1
  have l6 := hide (show b2 < W.heap.size from heap_lt (unhide R2))
  have ne1 : ¬ b2 = b1 := by have := unhide lz; omega
  have ne2 : ¬ b1 = b2 := by have := unhide lz; omega
  have k0 := hide (show ∀ u, Below b2 W u → (u.cell? ⟨b1, 0, none⟩ = some (.int .i64 x) ∧ u.cell? ⟨b1, 1, none⟩ = some (.int .i64 y) ∧ u.cell? ⟨b1, 2, none⟩ = some (.slice ao n cp) ∧ Below b2 W u) from fun u h => by
    obtain ⟨c0, c1, c2⟩ := row3 ((h.block b1 (unhide lz).2).trans (unhide R))
    exact ⟨c0, c1, c2, h⟩)
  have k00 := hide (unhide k0 _ (Below.refl _ _).drew)
  have oE := hide (show ((W.alloc (.cells #[] 71)).drew).ownsRow W.heap.size 71 4 (.slice (some ⟨W.heap.size, 0, none⟩) 0 0) 0 [] from World.ownsRow_lit W #[] 0 (Nat.le_refl _) (by decide) rfl)
  have bE := hide (show Below W.heap.size W (W.alloc (.cells #[] 71)).drew from (al1_below W (.cells #[] 71)).drew)
  have PE := hide (fun i hi => ((unhide P i hi).next (unhide HB)).next (unhide bE))
  go_region_held3 (fun u => u.cell? ⟨b1, 0, none⟩ = some (.int .i64 x) ∧ u.cell? ⟨b1, 1, none⟩ = some (.int .i64 y) ∧ u.cell? ⟨b1, 2, none⟩ = some (.slice ao n cp) ∧ Below b2 W u) ((first | with_reducible exact unhide k00 | (with_reducible refine unhide k0 _ ?_; first | with_reducible assumption | with_reducible exact Below.mono (by assumption) (Nat.le_of_lt (unhide l6)) | (with_reducible refine below_put3 ?_ (Nat.le_refl _) _ _ _; with_reducible exact Below.mono (by assumption) (Nat.le_of_lt (unhide l6))) | with_reducible exact Below.mono (unhide bE) (Nat.le_of_lt (unhide l6))))) (first | (refine step_append_cols rfl _ _ 26 (by rfl) W.heap.size i0 (.agg #[.int .i64 0, .int .i64 0, .int .i64 0, .int .i64 0]) Try.underlying26 hi hz0 hz1 hz2 rfl _ (by rfl) (unhide oE) ao n cp f (by rfl) (unhide hao) (unhide PE) hn W W.heap.size (Nat.le_refl _) (unhide bE).size (unhide bE) ?_; intro v6 w6 hc hb6; obtain ⟨xs6, o6, x6⟩ := hc; obtain ⟨p6, c6, rfl⟩ := own_form o6; obtain ⟨e0, e1, e2⟩ := row3 (row_next hb6 (unhide R2)); obtain ⟨f0, f1, f2⟩ := frozen3 (row_next hb6 (unhide R2)); replace o6 := hide o6; replace x6 := hide x6))
  all_goals
    go_wp2_with fail
    refine bodyPost_ret (v := .agg #[.int .i64 x, .int .i64 y, .slice p6 n c6]) (by simp [results, Try.results38, go_sem, e0, e1, e2]) rfl ⟨p6, c6, rfl, ⟨xs6, ?_, unhide x6⟩, ?_⟩
    · exact own_low (own_put3 (unhide o6) (fun k hk => by have := ((unhide o6).lt k hk).1; have := unhide l6; omega) _ _ _) (unhide HB).size
    · exact below_put3 (below_two (unhide HB) hb6) (unhide lz).1 _ _ _
end Go.Proofs.Ytmomgbnhildpdab
