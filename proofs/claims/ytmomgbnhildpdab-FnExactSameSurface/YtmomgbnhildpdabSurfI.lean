/-
  The program's surfaces: sides, places, right surfaces, new ones, their squares, copies.
-/
import Derived.Test.YtmomgbnhildpdabSurfC
import Derived.Test.YtmomgbnhildpdabBlendI
import Derived.Test.YtmomgbnhildpdabBoxI
namespace Go.Proofs.Ytmomgbnhildpdab
open Go.RowKit
set_option linter.unusedVariables false

theorem implSideOk_any (x : Int) (w : World) :
    Calls Try.prog 91 #[.int .i64 x] w fun e w' => e = .returned (.bool (inB x 1 12)) ∧ w' = w := by
  by_cases h1 : 1 ≤ x
  · by_cases h2 : x ≤ 12
    · have H : Hid (true = inB x 1 12) := (inB_true.2 ⟨h1, h2⟩).symm
      go_enter Try.func91, Try.ntmps91
      go_wp2_with fail
      go_ret
      exact ⟨ret_bool (unhide H), rfl⟩
    · have H : Hid (false = inB x 1 12) := by unfold Hid inB; simp [h1, h2]
      go_enter Try.func91, Try.ntmps91
      go_wp2_with fail
      go_ret
      exact ⟨ret_bool (unhide H), rfl⟩
  · have H : Hid (false = inB x 1 12) := by unfold Hid inB; simp [h1]
    go_enter Try.func91, Try.ntmps91
    go_wp2_with fail
    go_ret
    exact ⟨ret_bool (unhide H), rfl⟩

set_option maxHeartbeats 4000000 in
theorem implPixPlace_any (x y px py : Int) (v : Value) (h1 : IntKind.i64.wrap (py * x) = py * x) (h2 : IntKind.i64.wrap (py * x + px) = py * x + px) (w : World) :
    Calls Try.prog 49 #[.agg #[.int .i64 x, .int .i64 y, v], .int .i64 px, .int .i64 py] w fun r w' => r = .returned (.int .i64 (py * x + px)) ∧ Below w.heap.size w w' := by
  go_enter Try.func49, Try.ntmps49
  go_wp2_with fail
  go_ret
  exact ⟨rfl, al1_below _ _⟩

theorem notNilCols (w : World) (a : Addr) (n c : Nat) : (binOp .eql 26 (.slice (some a) n c) (.slice none 0 0)).run Try.prog w = .ok (.bool false) w := by kernel_rfl
theorem nilCols (w : World) : (binOp .eql 26 (.slice none 0 0) (.slice none 0 0)).run Try.prog w = .ok (.bool true) w := by kernel_rfl

attribute [local go_sem ↓] notNilCols nilCols in
set_option maxHeartbeats 4000000 in
theorem cloneCols_any (f : Nat → B4) (ao : Option Addr) (n c : Nat) (hn : n ≤ 1048576) (hc : n ≤ c) (hao : ao = none → c = 0) (w : World) (P : ∀ i, i < n → ClAt w ao i (f i)) :
    Calls Try.prog 93 #[.slice ao n c] w fun r w' => ∃ av cv, r = .returned (.slice av n cv) ∧ ColsV w' w.heap.size (.slice av n cv) n f ∧ Below w.heap.size w w' := by
  cases ao with
  | none =>
    obtain rfl := hao rfl
    obtain rfl : n = 0 := by omega
    go_enter Try.func93, Try.ntmps93
    go_wp2_with fail
    go_ret
    exact ⟨_, _, rfl, cols_none _ _ _, Below.refl _ _⟩
  | some ad =>
    obtain ⟨i1, hi1, hz1, hs1, hb1⟩ := info_parts infoColor
    have oE := hide (show (w.alloc (.cells #[] 71)).ownsRow w.heap.size 71 4 (.slice (some ⟨w.heap.size, 0, none⟩) 0 0) 0 [] from World.ownsRow_lit w #[] 0 (Nat.le_refl _) (by decide) rfl)
    have VE := hide (show ∀ j u, (colsL f n)[j]? = some u → (w.alloc (.cells #[] 71)).cell? (ad.add j) = some u from by
      rcases Nat.eq_zero_or_pos n with h0 | h0
      · subst h0; intro j u hu; simp [colsL, csV] at hu
      · obtain ⟨s0, o0, e, _⟩ := P 0 h0
        cases e
        exact colsL_cells (fun i hi => (P i hi).next (al1_below w (.cells #[] 71))))
    clear P
    go_enter Try.func93, Try.ntmps93
    go_wp2_with (at_builtin; go_must (refine wpList_append_own (w.alloc (.cells #[] 71)) rfl _ _ 26 rfl w.heap.size 71 i1 (.agg #[.int .i64 0, .int .i64 0, .int .i64 0, .int .i64 0]) 4 32 Try.underlying26 hi1 hz1 hs1 hb1 rfl (by decide) _ 0 [] (by rfl) (unhide oE) ad n c (colsL f n) (by rfl) (colsL_len f n) (unhide VE) (colsL_one f n) (by unfold maxLen; omega) (by omega) (by simp) ?_); intro v1 w3 ho hg _; rw [Nat.zero_add, List.nil_append] at ho; obtain ⟨av, cv, rfl⟩ := own_form ho; have O1 := hide ho; have G3 := hide hg; clear ho hg)
    replace G3 := hide (below_of_grown (B := w.heap.size) (unhide G3) (by simp) (fun k hk => by simp [Value.ownBlock] at hk; omega))
    replace G3 := hide ((al1_below w (.cells #[] 71)).trans (unhide G3))
    go_ret
    exact ⟨av, cv, rfl, ⟨_, unhide O1, colsL_at f n⟩, unhide G3⟩

set_option maxHeartbeats 8000000 in
set_option maxRecDepth 100000 in
theorem implSurfaceCopy_any (x y : Int) (f : Nat → B4) (ao : Option Addr) (n cp : Nat) (hn : n ≤ 1048576) (hc : n ≤ cp) (hao : ao = none → cp = 0) (w : World) (P : ∀ i, i < n → ClAt w ao i (f i)) :
    Calls Try.prog 44 #[.agg #[.int .i64 x, .int .i64 y, .slice ao n cp]] w fun r w' => SurfRes w r w' x y n f := by
  have EC := hide (fun u (hu : Below w.heap.size w u) => cloneCols_any f ao n cp hn hc hao u (fun i hi => (P i hi).next hu))
  clear P
  unfold SurfRes
  go_enter Try.func44, Try.ntmps44
  go_upto_region 1 with fail
  have R := hide (al2_0 w (.cells #[.int .i64 x, .int .i64 y, .slice ao n cp] 28) (.cells #[.int .i64 0, .int .i64 0, .slice none 0 0] 28))
  have R2 := hide (al2_1 w (.cells #[.int .i64 x, .int .i64 y, .slice ao n cp] 28) (.cells #[.int .i64 0, .int .i64 0, .slice none 0 0] 28))
  have HB := hide (al2_below w (.cells #[.int .i64 x, .int .i64 y, .slice ao n cp] 28) (.cells #[.int .i64 0, .int .i64 0, .slice none 0 0] 28))
  obtain ⟨b2, hb2⟩ : ∃ b, Hid (b = w.heap.size + 1) := ⟨_, rfl⟩
  obtain ⟨b1, hb1⟩ : ∃ b, Hid (b = w.heap.size) := ⟨_, rfl⟩
  have lz : Hid (w.heap.size ≤ b2 ∧ b1 < b2) := by unfold Hid; rw [unhide hb2, unhide hb1]; omega
  rw [← unhide hb2] at R2
  rw [← unhide hb1] at R
  rw [← unhide hb2, ← unhide hb1]
  generalize (w.alloc (.cells #[.int .i64 x, .int .i64 y, .slice ao n cp] 28)).alloc (.cells #[.int .i64 0, .int .i64 0, .slice none 0 0] 28) = W at R R2 HB ⊢
  clear hb2 hb1
  have l6 := hide (show b2 < W.heap.size from heap_lt (unhide R2))
  have ne1 : ¬ b2 = b1 := by have := unhide lz; omega
  have ne2 : ¬ b1 = b2 := by have := unhide lz; omega
  have k0 := hide (show ∀ u, Below b2 W u → (u.cell? ⟨b1, 0, none⟩ = some (.int .i64 x) ∧ u.cell? ⟨b1, 1, none⟩ = some (.int .i64 y) ∧ u.cell? ⟨b1, 2, none⟩ = some (.slice ao n cp) ∧ Below b2 W u) from fun u h => by
    obtain ⟨c0, c1, c2⟩ := row3 ((h.block b1 (unhide lz).2).trans (unhide R))
    exact ⟨c0, c1, c2, h⟩)
  have k00 := hide (unhide k0 _ (Below.refl _ _).drew)
  have EC0 := hide (unhide EC _ (unhide HB).drew)
  clear EC
  go_region_held3 (fun u => u.cell? ⟨b1, 0, none⟩ = some (.int .i64 x) ∧ u.cell? ⟨b1, 1, none⟩ = some (.int .i64 y) ∧ u.cell? ⟨b1, 2, none⟩ = some (.slice ao n cp) ∧ Below b2 W u) ((first | with_reducible exact unhide k00 | (with_reducible refine unhide k0 _ ?_; first | with_reducible assumption | with_reducible exact Below.mono (by assumption) (Nat.le_of_lt (unhide l6)) | (with_reducible refine below_put3 ?_ (Nat.le_refl _) _ _ _; with_reducible exact Below.mono (by assumption) (Nat.le_of_lt (unhide l6)))))) (first | (go_at_call 93; go_fit (unhide EC0); rintro r w6 ⟨p6, c6, rfl, hc6, hb6'⟩; have hb6 := below_undrew hb6'; clear hb6'; obtain ⟨e0, e1, e2⟩ := row3 (row_next hb6 (unhide R2)); obtain ⟨f0, f1, f2⟩ := frozen3 (row_next hb6 (unhide R2)); replace hc6 := hide hc6))
  all_goals
    go_wp2_with fail
    refine bodyPost_ret (v := .agg #[.int .i64 x, .int .i64 y, .slice p6 n c6]) (by simp [results, Try.results44, go_sem, e0, e1, e2]) rfl ⟨p6, c6, rfl, ?_, ?_⟩
    · obtain ⟨xs6, o6, x6⟩ := unhide hc6
      exact ⟨xs6, own_low (own_put3 o6 (fun k hk => by have h1 : W.heap.size ≤ k := (o6.lt k hk).1; have := unhide l6; omega) _ _ _) (unhide HB).size, x6⟩
    · exact below_put3 (below_two (unhide HB) hb6) (unhide lz).1 _ _ _

end Go.Proofs.Ytmomgbnhildpdab
