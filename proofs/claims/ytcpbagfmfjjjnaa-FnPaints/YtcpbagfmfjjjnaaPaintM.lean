/-
  The program's brushes: closures that answer a square's colour.
-/
import Derived.Test.YtcpbagfmfjjjnaaPaintK
import Derived.Test.YtcpbagfmfjjjnaaPaintU
namespace Go.Proofs.Ytcpbagfmfjjjnaa
open Go.RowKit
set_option linter.unusedVariables false

theorem implMix_any (q : Nat) (x y t : Int) (hx : 0 ≤ x ∧ x ≤ 255) (hy : 0 ≤ y ∧ y ≤ 255) (ht : 0 ≤ t ∧ t ≤ 256) (w : World) (h : w.cell? ⟨q, 0, none⟩ = some (.int .i64 t)) :
    Calls Try.prog 57 #[.int .i64 x, .int .i64 y, .pointer (some ⟨q, 0, none⟩)] w fun e w' => e = .returned (.int .i64 (mixI x y t)) ∧ Below w.heap.size w w' := by
  have hm := mix_bd hx hy ht
  have E := hide (implRoundDiv_any ((256 - t) * x + t * y) 256 (by omega) (by omega) (by omega))
  have v1 : IntKind.i64.wrap (256 - t) = 256 - t := IntWalk.i64_in _ (by omega)
  have m1 : 0 ≤ (256 - t) * x := Int.mul_nonneg (by omega) (by omega)
  have m2 : 0 ≤ t * y := Int.mul_nonneg (by omega) (by omega)
  have v2 : IntKind.i64.wrap ((256 - t) * x) = (256 - t) * x := IntWalk.i64_in _ (by omega)
  have v3 : IntKind.i64.wrap (t * y) = t * y := IntWalk.i64_in _ (by omega)
  have v4 : IntKind.i64.wrap ((256 - t) * x + t * y) = (256 - t) * x + t * y := IntWalk.i64_in _ (by omega)
  unfold mixI
  clear hm m1 m2
  go_enter Try.func57, Try.ntmps57
  go_wp2_with fail
  go_fit (unhide E _)
  rintro e w1 ⟨rfl, hb⟩
  go_wp2_with fail
  go_ret
  exact ⟨rfl, hb⟩

set_option maxHeartbeats 8000000 in
set_option maxRecDepth 100000 in
theorem implEachPart_any (q : Nat) (r g b a r2 g2 b2' a2 t : Int) (hf : colorOkB ⟨r, g, b, a⟩ = true) (hl : colorOkB ⟨r2, g2, b2', a2⟩ = true) (ht : 0 ≤ t ∧ t ≤ 256) (w : World) (h : w.cell? ⟨q, 0, none⟩ = some (.int .i64 t)) :
    Calls Try.prog 56 #[.agg #[.int .i64 r, .int .i64 g, .int .i64 b, .int .i64 a], .agg #[.int .i64 r2, .int .i64 g2, .int .i64 b2', .int .i64 a2], .func (.func 57) #[] #[.pointer (some ⟨q, 0, none⟩)]] w fun e w' => e = .returned (.agg #[.int .i64 (mixI r r2 t), .int .i64 (mixI g g2 t), .int .i64 (mixI b b2' t), .int .i64 (mixI a a2 t)]) ∧ Below w.heap.size w w' := by
  obtain ⟨f1, f2, f3, f4⟩ := colorOk_iff.1 hf
  obtain ⟨l1, l2, l3, l4⟩ := colorOk_iff.1 hl
  have K0 := hide (implMix_any q r r2 t f1 l1 ht)
  have K1 := hide (implMix_any q g g2 t f2 l2 ht)
  have K2 := hide (implMix_any q b b2' t f3 l3 ht)
  have K3 := hide (implMix_any q a a2 t f4 l4 ht)
  generalize mixI r r2 t = m0 at K0 ⊢
  generalize mixI g g2 t = m1 at K1 ⊢
  generalize mixI b b2' t = m2 at K2 ⊢
  generalize mixI a a2 t = m3 at K3 ⊢
  clear f1 f2 f3 f4 l1 l2 l3 l4 hf hl ht
  go_enter Try.func56, Try.ntmps56
  go_upto_region 1 with fail
  have R1 := hide (al3_0 w (.cells #[.int .i64 r, .int .i64 g, .int .i64 b, .int .i64 a] 25) (.cells #[.int .i64 r2, .int .i64 g2, .int .i64 b2', .int .i64 a2] 25) (.cells #[.int .i64 0, .int .i64 0, .int .i64 0, .int .i64 0] 25))
  have R2 := hide (al3_1 w (.cells #[.int .i64 r, .int .i64 g, .int .i64 b, .int .i64 a] 25) (.cells #[.int .i64 r2, .int .i64 g2, .int .i64 b2', .int .i64 a2] 25) (.cells #[.int .i64 0, .int .i64 0, .int .i64 0, .int .i64 0] 25))
  have R3 := hide (al3_2 w (.cells #[.int .i64 r, .int .i64 g, .int .i64 b, .int .i64 a] 25) (.cells #[.int .i64 r2, .int .i64 g2, .int .i64 b2', .int .i64 a2] 25) (.cells #[.int .i64 0, .int .i64 0, .int .i64 0, .int .i64 0] 25))
  have HB := hide (al3_below w (.cells #[.int .i64 r, .int .i64 g, .int .i64 b, .int .i64 a] 25) (.cells #[.int .i64 r2, .int .i64 g2, .int .i64 b2', .int .i64 a2] 25) (.cells #[.int .i64 0, .int .i64 0, .int .i64 0, .int .i64 0] 25))
  have cq := kc (unhide HB) h
  obtain ⟨b3, hb3⟩ : ∃ b, Hid (b = w.heap.size + 1 + 1) := ⟨_, rfl⟩
  obtain ⟨b2, hb2⟩ : ∃ b, Hid (b = w.heap.size + 1) := ⟨_, rfl⟩
  obtain ⟨b1, hb1⟩ : ∃ b, Hid (b = w.heap.size) := ⟨_, rfl⟩
  have lz : Hid (w.heap.size ≤ b3 ∧ b1 < b3 ∧ b2 < b3) := by unfold Hid; rw [unhide hb3, unhide hb2, unhide hb1]; omega
  rw [← unhide hb3] at R3
  rw [← unhide hb2] at R2
  rw [← unhide hb1] at R1
  rw [← unhide hb3, ← unhide hb2, ← unhide hb1]
  generalize ((w.alloc (.cells #[.int .i64 r, .int .i64 g, .int .i64 b, .int .i64 a] 25)).alloc (.cells #[.int .i64 r2, .int .i64 g2, .int .i64 b2', .int .i64 a2] 25)).alloc (.cells #[.int .i64 0, .int .i64 0, .int .i64 0, .int .i64 0] 25) = W at R1 R2 R3 HB cq ⊢
  clear hb3 hb2 hb1 h
  have ne1 : ¬ b3 = b1 := by have := unhide lz; omega
  have ne2 : ¬ b1 = b3 := by have := unhide lz; omega
  have ne3 : ¬ b3 = b2 := by have := unhide lz; omega
  have ne4 : ¬ b2 = b3 := by have := unhide lz; omega
  have l6 := hide (show b3 ≤ W.heap.size from Nat.le_of_lt (heap_lt (unhide R3)))
  have cq0 : W.drew.cell? ⟨q, 0, none⟩ = some (.int .i64 t) := cq
  have k0 := hide (show ∀ u, Below b3 W u → (u.cell? ⟨b1, 0, none⟩ = some (.int .i64 r) ∧ u.cell? ⟨b1, 1, none⟩ = some (.int .i64 g) ∧ u.cell? ⟨b1, 2, none⟩ = some (.int .i64 b) ∧ u.cell? ⟨b1, 3, none⟩ = some (.int .i64 a) ∧ u.cell? ⟨b2, 0, none⟩ = some (.int .i64 r2) ∧ u.cell? ⟨b2, 1, none⟩ = some (.int .i64 g2) ∧ u.cell? ⟨b2, 2, none⟩ = some (.int .i64 b2') ∧ u.cell? ⟨b2, 3, none⟩ = some (.int .i64 a2) ∧ Below b3 W u) from fun u h => by
    obtain ⟨c0, c1, c2, c3⟩ := row4 ((h.block b1 (unhide lz).2.1).trans (unhide R1))
    obtain ⟨d0, d1, d2, d3⟩ := row4 ((h.block b2 (unhide lz).2.2).trans (unhide R2))
    exact ⟨c0, c1, c2, c3, d0, d1, d2, d3, h⟩)
  have k1 := hide (show ∀ u, Below W.heap.size W u → (u.cell? ⟨b3, 0, none⟩ = some (.int .i64 0) ∧ u.cell? ⟨b3, 1, none⟩ = some (.int .i64 0) ∧ u.cell? ⟨b3, 2, none⟩ = some (.int .i64 0) ∧ u.cell? ⟨b3, 3, none⟩ = some (.int .i64 0) ∧ u.frozen? ⟨b3, 0, none⟩ = false ∧ u.frozen? ⟨b3, 1, none⟩ = false ∧ u.frozen? ⟨b3, 2, none⟩ = false ∧ u.frozen? ⟨b3, 3, none⟩ = false) from fun u h => by
    obtain ⟨e0, e1, e2, e3⟩ := row4 (row_next h (unhide R3))
    obtain ⟨f0, f1, f2, f3⟩ := free4 (row_next h (unhide R3))
    exact ⟨e0, e1, e2, e3, f0, f1, f2, f3⟩)
  have k00 := hide (unhide k0 _ (Below.refl _ _).drew)
  go_region_held3 (fun u => u.cell? ⟨b1, 0, none⟩ = some (.int .i64 r) ∧ u.cell? ⟨b1, 1, none⟩ = some (.int .i64 g) ∧ u.cell? ⟨b1, 2, none⟩ = some (.int .i64 b) ∧ u.cell? ⟨b1, 3, none⟩ = some (.int .i64 a) ∧ u.cell? ⟨b2, 0, none⟩ = some (.int .i64 r2) ∧ u.cell? ⟨b2, 1, none⟩ = some (.int .i64 g2) ∧ u.cell? ⟨b2, 2, none⟩ = some (.int .i64 b2') ∧ u.cell? ⟨b2, 3, none⟩ = some (.int .i64 a2) ∧ Below b3 W u) ((first | with_reducible exact unhide k00 | (with_reducible refine unhide k0 _ ?_; first | with_reducible exact Below.mono (by assumption) (unhide l6) | (with_reducible refine below_put4 ?_ (Nat.le_refl _) _ _ _ _; with_reducible exact Below.mono (by assumption) (unhide l6))))) (first | (go_at_call 57; go_fit (unhide K0 _ cq0); rintro e w4 ⟨rfl, hb1⟩; have h1 := below_undrew hb1; have cq1 := kc h1 cq; clear hb1) | (go_at_call 57; go_fit (unhide K1 _ cq1); rintro e w5 ⟨rfl, hb2⟩; have h2 := below_two h1 hb2; clear h1 cq1; have cq2 := kc h2 cq; clear hb2) | (go_at_call 57; go_fit (unhide K2 _ cq2); rintro e w6 ⟨rfl, hb3⟩; have h3 := below_two h2 hb3; clear h2 cq2; have cq3 := kc h3 cq; clear hb3) | (go_at_call 57; go_fit (unhide K3 _ cq3); rintro e w7 ⟨rfl, hb4⟩; have h4 := below_two h3 hb4; clear h3 cq3; clear hb4; obtain ⟨e0, e1, e2, e3, f0, f1, f2, f3⟩ := unhide k1 _ h4))
  all_goals
    go_wp2_with fail
    refine bodyPost_ret (v := .agg #[.int .i64 m0, .int .i64 m1, .int .i64 m2, .int .i64 m3]) (by simp [results, Try.results56, go_sem, e0, e1, e2, e3]) rfl ⟨rfl, ?_⟩
    exact below_put4 (below_two (unhide HB) h4) (unhide lz).1 _ _ _ _

set_option maxHeartbeats 4000000 in
set_option maxRecDepth 100000 in
theorem implColorBetween_any (r g b a r2 g2 b2' a2 t : Int) (hf : colorOkB ⟨r, g, b, a⟩ = true) (hl : colorOkB ⟨r2, g2, b2', a2⟩ = true) (ht : 0 ≤ t ∧ t ≤ 256) (w : World) :
    Calls Try.prog 46 #[.agg #[.int .i64 r, .int .i64 g, .int .i64 b, .int .i64 a], .agg #[.int .i64 r2, .int .i64 g2, .int .i64 b2', .int .i64 a2], .int .i64 t] w fun e w' => e = .returned (.agg #[.int .i64 (mixI r r2 t), .int .i64 (mixI g g2 t), .int .i64 (mixI b b2' t), .int .i64 (mixI a a2 t)]) ∧ Below w.heap.size w w' := by
  have EE := hide (fun q => implEachPart_any q r g b a r2 g2 b2' a2 t hf hl ht)
  generalize mixI r r2 t = m0 at EE ⊢
  generalize mixI g g2 t = m1 at EE ⊢
  generalize mixI b b2' t = m2 at EE ⊢
  generalize mixI a a2 t = m3 at EE ⊢
  clear hf hl ht
  go_enter Try.func46, Try.ntmps46
  go_upto_region 1 with fail
  have R1 := hide (old_row (.cells #[.int .i64 0, .int .i64 0, .int .i64 0, .int .i64 0] 25) (al3_0 w (.cells #[.int .i64 r, .int .i64 g, .int .i64 b, .int .i64 a] 25) (.cells #[.int .i64 r2, .int .i64 g2, .int .i64 b2', .int .i64 a2] 25) (.cells #[.int .i64 t] 3)))
  have R2 := hide (old_row (.cells #[.int .i64 0, .int .i64 0, .int .i64 0, .int .i64 0] 25) (al3_1 w (.cells #[.int .i64 r, .int .i64 g, .int .i64 b, .int .i64 a] 25) (.cells #[.int .i64 r2, .int .i64 g2, .int .i64 b2', .int .i64 a2] 25) (.cells #[.int .i64 t] 3)))
  have R4 := hide (old_row (.cells #[.int .i64 0, .int .i64 0, .int .i64 0, .int .i64 0] 25) (al3_2 w (.cells #[.int .i64 r, .int .i64 g, .int .i64 b, .int .i64 a] 25) (.cells #[.int .i64 r2, .int .i64 g2, .int .i64 b2', .int .i64 a2] 25) (.cells #[.int .i64 t] 3)))
  have R3 := hide (new_row (((w.alloc (.cells #[.int .i64 r, .int .i64 g, .int .i64 b, .int .i64 a] 25)).alloc (.cells #[.int .i64 r2, .int .i64 g2, .int .i64 b2', .int .i64 a2] 25)).alloc (.cells #[.int .i64 t] 3)) (.cells #[.int .i64 0, .int .i64 0, .int .i64 0, .int .i64 0] 25))
  have HB := hide (below_two (al3_below w (.cells #[.int .i64 r, .int .i64 g, .int .i64 b, .int .i64 a] 25) (.cells #[.int .i64 r2, .int .i64 g2, .int .i64 b2', .int .i64 a2] 25) (.cells #[.int .i64 t] 3)) (al1_below _ (.cells #[.int .i64 0, .int .i64 0, .int .i64 0, .int .i64 0] 25)))
  rw [al3_size] at R3
  obtain ⟨b3, hb3⟩ : ∃ b, Hid (b = w.heap.size + 1 + 1 + 1) := ⟨_, rfl⟩
  obtain ⟨b4, hb4⟩ : ∃ b, Hid (b = w.heap.size + 1 + 1) := ⟨_, rfl⟩
  obtain ⟨b2, hb2⟩ : ∃ b, Hid (b = w.heap.size + 1) := ⟨_, rfl⟩
  obtain ⟨b1, hb1⟩ : ∃ b, Hid (b = w.heap.size) := ⟨_, rfl⟩
  have lz : Hid (w.heap.size ≤ b3 ∧ b1 < b3 ∧ b2 < b3) := by unfold Hid; rw [unhide hb3, unhide hb2, unhide hb1]; omega
  rw [show w.heap.size + 3 = b3 from (unhide hb3).symm] at R3
  rw [← unhide hb4] at R4
  rw [← unhide hb2] at R2
  rw [← unhide hb1] at R1
  rw [← unhide hb3, ← unhide hb4, ← unhide hb2, ← unhide hb1]
  generalize (((w.alloc (.cells #[.int .i64 r, .int .i64 g, .int .i64 b, .int .i64 a] 25)).alloc (.cells #[.int .i64 r2, .int .i64 g2, .int .i64 b2', .int .i64 a2] 25)).alloc (.cells #[.int .i64 t] 3)).alloc (.cells #[.int .i64 0, .int .i64 0, .int .i64 0, .int .i64 0] 25) = W at R1 R2 R3 R4 HB ⊢
  clear hb3 hb4 hb2 hb1
  obtain ⟨c0, c1, c2, c3⟩ := row4 (unhide R1)
  obtain ⟨d0, d1, d2, d3⟩ := row4 (unhide R2)
  go_wp2_with fail
  go_fit (unhide EE _ _ (cell_one (unhide R4)))
  rintro e w1 ⟨rfl, hb⟩
  replace R3 := hide (row_next hb (unhide R3))
  replace HB := hide (below_two (unhide HB) hb)
  clear hb c0 c1 c2 c3 d0 d1 d2 d3
  obtain ⟨e0, e1, e2, e3⟩ := row4 (unhide R3)
  obtain ⟨f0, f1, f2, f3⟩ := free4 (unhide R3)
  go_wp2_with fail
  refine bodyPost_ret (v := .agg #[.int .i64 m0, .int .i64 m1, .int .i64 m2, .int .i64 m3]) (by simp [results, Try.results46, go_sem, e0, e1, e2, e3]) rfl ⟨rfl, ?_⟩
  exact below_put4 (unhide HB) (unhide lz).1 _ _ _ _

set_option maxHeartbeats 4000000 in
set_option maxRecDepth 100000 in
theorem implEven1_any (q : Nat) (r g b a x y : Int) (w : World) (h : w.heap[q]? = some (.cells #[.int .i64 r, .int .i64 g, .int .i64 b, .int .i64 a] 25 (0, 0))) :
    Calls Try.prog 55 #[.int .i64 x, .int .i64 y, .pointer (some ⟨q, 0, none⟩)] w fun e w' => e = .returned (.agg #[.int .i64 r, .int .i64 g, .int .i64 b, .int .i64 a]) ∧ Below w.heap.size w w' := by
  go_enter Try.func55, Try.ntmps55
  go_upto_region 1 with fail
  have R1 := hide (old_row (.cells #[.int .i64 0, .int .i64 0, .int .i64 0, .int .i64 0] 25) h)
  have R3 := hide (new_row w (.cells #[.int .i64 0, .int .i64 0, .int .i64 0, .int .i64 0] 25))
  have HB := hide (al1_below w (.cells #[.int .i64 0, .int .i64 0, .int .i64 0, .int .i64 0] 25))
  obtain ⟨b3, hb3⟩ : ∃ b, Hid (b = w.heap.size) := ⟨_, rfl⟩
  have lz : Hid (w.heap.size ≤ b3) := by unfold Hid; rw [unhide hb3]; omega
  rw [← unhide hb3] at R3
  rw [← unhide hb3]
  generalize w.alloc (.cells #[.int .i64 0, .int .i64 0, .int .i64 0, .int .i64 0] 25) = W at R1 R3 HB ⊢
  clear hb3 h
  obtain ⟨c0, c1, c2, c3⟩ := row4 (unhide R1)
  obtain ⟨e0, e1, e2, e3⟩ := row4 (unhide R3)
  obtain ⟨f0, f1, f2, f3⟩ := free4 (unhide R3)
  go_wp2_with fail
  refine bodyPost_ret (v := .agg #[.int .i64 r, .int .i64 g, .int .i64 b, .int .i64 a]) (by simp [results, Try.results55, go_sem, e0, e1, e2, e3]) rfl ⟨rfl, ?_⟩
  exact below_put4 (unhide HB) (unhide lz) _ _ _ _

theorem implEvenBrush_any (r g b a : Int) (w : World) :
    Calls Try.prog 44 #[.agg #[.int .i64 r, .int .i64 g, .int .i64 b, .int .i64 a]] w fun e w' => ∃ q, e = .returned (.func (.func 55) #[] #[.pointer (some ⟨q, 0, none⟩)]) ∧ w'.heap[q]? = some (.cells #[.int .i64 r, .int .i64 g, .int .i64 b, .int .i64 a] 25 (0, 0)) ∧ Below w.heap.size w w' := by
  go_enter Try.func44, Try.ntmps44
  go_wp2_with fail
  go_ret
  exact ⟨_, rfl, new_row _ _, al1_below _ _⟩
end Go.Proofs.Ytcpbagfmfjjjnaa
