/-
  Drawn colours: l12Color. (By drawpaint.py.)
-/
import Derived.Test.YthelfgippiimiabPaintL
import Derived.Test.YthelfgippiimiabDrawPt
namespace Go.Proofs.Ythelfgippiimiab
open Go.RowKit
set_option linter.unusedVariables false

set_option maxHeartbeats 1000000 in
/-- A number is picked out of a list. -/
theorem pickQ_ds (Q : Int → Prop) {w u : World} {g B : Nat} {a : Option Addr} {len cap : Nat} (h : DS w u g B a len cap) (hl : len ≤ 1048576) (b n : Nat) (hn : 0 < n) (hn2 : n ≤ 1000) (hb : w.heap.size ≤ b) (hbs : b < u.heap.size) (hrow : ∀ j, j < n → ∃ z, Q z ∧ u.cell? ⟨b, j, none⟩ = some (.int .i64 z)) :
    Calls Try.prog 88 #[.pointer (some ⟨g, 0, none⟩), .slice (some ⟨b, 0, none⟩) n n] u fun e v => ∃ z : Int, Q z ∧ e = .returned (.int .i64 z) ∧ DS w v g B a len cap ∧ u.grownBy v (some g) := by
  have H := hide (draw_any h hl n hn (by omega))
  have HR := hide hrow
  have hbg : b ≠ g := by have := h.lt; omega
  clear hrow h
  go_enter Try.func88, Try.ntmps88
  go_wp2_with fail
  refine (unhide H).mono ?_
  rintro e w1 ⟨x, hx, rfl, hc1, hg1⟩
  obtain ⟨z, hz, hcz⟩ := unhide HR x hx
  have hbl : w1.heap[b]? = u.heap[b]? := hg1.block b hbs (by intro h; cases h; exact hbg rfl)
  have hcell : w1.cell? ⟨b, x, none⟩ = some (.int .i64 z) := by
    have e : w1.cell? ⟨b, x, none⟩ = u.cell? ⟨b, x, none⟩ := by simp [World.cell?, hbl]
    rw [e]; exact hcz
  have C1 := hide hc1
  have G1 := hide hg1
  clear hc1 hg1 hbl hcz
  have hx1 : (x : Int) < (n : Int) := by omega
  have hx0 : (0 : Int) ≤ (x : Int) := by omega
  go_wp2
  go_ret
  exact ⟨z, hz, rfl, unhide C1, unhide G1⟩

theorem colRow (w : World) : ∀ j, j < 6 → ∃ z : Int, (0 ≤ z ∧ z ≤ 255) ∧ (w.alloc (.cells #[.int .i64 255, .int .i64 255, .int .i64 128, .int .i64 0, .int .i64 1, .int .i64 200] 3)).cell? ⟨w.heap.size, j, none⟩ = some (.int .i64 z) := by
  intro j hj
  have h := heap_alloc_new w (.cells #[.int .i64 255, .int .i64 255, .int .i64 128, .int .i64 0, .int .i64 1, .int .i64 200] 3)
  generalize w.alloc (.cells #[.int .i64 255, .int .i64 255, .int .i64 128, .int .i64 0, .int .i64 1, .int .i64 200] 3) = W at h ⊢
  have h5 : j = 0 ∨ j = 1 ∨ j = 2 ∨ j = 3 ∨ j = 4 ∨ j = 5 := by omega
  rcases h5 with rfl | rfl | rfl | rfl | rfl | rfl
  · exact ⟨255, by omega, by simp [World.cell?, h]⟩
  · exact ⟨255, by omega, by simp [World.cell?, h]⟩
  · exact ⟨128, by omega, by simp [World.cell?, h]⟩
  · exact ⟨0, by omega, by simp [World.cell?, h]⟩
  · exact ⟨1, by omega, by simp [World.cell?, h]⟩
  · exact ⟨200, by omega, by simp [World.cell?, h]⟩

set_option maxHeartbeats 4000000 in
set_option maxRecDepth 100000 in
theorem l12Color_any (g0 B : Nat) (a0 : Option Addr) (len cap : Nat) (w : World) (hl : len ≤ 1048576) (h : DS w w g0 B a0 len cap) :
    Calls Try.prog 57 #[.pointer (some ⟨g0, 0, none⟩)] w fun e w' => ∃ r g b a : Int, e = .returned (.agg #[.int .i64 r, .int .i64 g, .int .i64 b, .int .i64 a]) ∧ colorOkB ⟨r, g, b, a⟩ = true ∧ DS w w' g0 B a0 len cap := by
  have D0 := hide h
  clear h
  go_enter Try.func57, Try.ntmps57
  go_upto_region 1 with fail
  have R2 := hide (new_row w (.cells #[.int .i64 0, .int .i64 0, .int .i64 0, .int .i64 0] 37))
  have D1 := hide ((unhide D0).alloc (.cells #[.int .i64 0, .int .i64 0, .int .i64 0, .int .i64 0] 37))
  obtain ⟨b2, hb2⟩ : ∃ b, Hid (b = w.heap.size) := ⟨_, rfl⟩
  rw [← unhide hb2] at R2
  rw [← unhide hb2]
  generalize w.alloc (.cells #[.int .i64 0, .int .i64 0, .int .i64 0, .int .i64 0] 37) = W at R2 D1 ⊢
  have l2 : Hid (w.heap.size ≤ b2) := by unfold Hid; rw [unhide hb2]; exact Nat.le_refl _
  clear D0 hb2
  go_wp2_with fail
  go_fit (draw_any (unhide D1) hl 256 (by omega) (by omega))
  rintro e w1 ⟨r, hr, rfl, d2, g2⟩
  replace R2 := hide ((unhide D1).heap g2 (unhide l2) (unhide R2))
  replace D1 := hide d2
  clear d2 g2
  go_wp2_with fail
  go_fit (draw_any (unhide D1) hl 256 (by omega) (by omega))
  rintro e w2 ⟨g, hg, rfl, d2, g2⟩
  replace R2 := hide ((unhide D1).heap g2 (unhide l2) (unhide R2))
  replace D1 := hide d2
  clear d2 g2
  go_wp2_with fail
  go_fit (draw_any (unhide D1) hl 256 (by omega) (by omega))
  rintro e w3 ⟨b, hb, rfl, d2, g2⟩
  replace R2 := hide ((unhide D1).heap g2 (unhide l2) (unhide R2))
  replace D1 := hide d2
  clear d2 g2
  have lw := hide (unhide D1).size
  go_wp2_with fail
  replace R2 := hide (row_next (al1_below w3 (.cells #[.int .i64 255, .int .i64 255, .int .i64 128, .int .i64 0, .int .i64 1, .int .i64 200] 3)) (unhide R2))
  replace D1 := hide ((unhide D1).alloc (.cells #[.int .i64 255, .int .i64 255, .int .i64 128, .int .i64 0, .int .i64 1, .int .i64 200] 3))
  refine (pickQ_ds (fun z => 0 ≤ z ∧ z ≤ 255) (unhide D1) hl w3.heap.size 6 (by omega) (by omega) (unhide lw) (by simp) (colRow w3)).mono ?_
  rintro e w4 ⟨a, ha, rfl, d2, g2⟩
  replace R2 := hide ((unhide D1).heap g2 (unhide l2) (unhide R2))
  replace D1 := hide d2
  clear d2 g2
  go_upto_region 2 with fail
  have R3 := hide (new_row w4 (.cells #[.int .i64 ((r : Int)), .int .i64 ((g : Int)), .int .i64 ((b : Int)), .int .i64 a] 37))
  replace R2 := hide (row_next (al1_below w4 (.cells #[.int .i64 ((r : Int)), .int .i64 ((g : Int)), .int .i64 ((b : Int)), .int .i64 a] 37)) (unhide R2))
  replace D1 := hide ((unhide D1).alloc (.cells #[.int .i64 ((r : Int)), .int .i64 ((g : Int)), .int .i64 ((b : Int)), .int .i64 a] 37))
  generalize w4.alloc (.cells #[.int .i64 ((r : Int)), .int .i64 ((g : Int)), .int .i64 ((b : Int)), .int .i64 a] 37) = W4 at R2 R3 D1 ⊢
  generalize w4.heap.size = b3 at R3 ⊢
  obtain ⟨c0, c1, c2, c3⟩ := row4 (unhide R3)
  obtain ⟨e0, e1, e2, e3⟩ := row4 (unhide R2)
  obtain ⟨f0, f1, f2, f3⟩ := free4 (unhide R2)
  go_wp2_with fail
  refine bodyPost_ret (v := .agg #[.int .i64 ((r : Int)), .int .i64 ((g : Int)), .int .i64 ((b : Int)), .int .i64 a]) (by simp [results, Try.results57, go_sem, e0, e1, e2, e3]) rfl ?_
  exact ⟨r, g, b, a, rfl, by rw [colorOk_iff]; dsimp only; omega, (((unhide D1).put 0 _ (unhide l2)).put 1 _ (unhide l2)).put 2 _ (unhide l2) |>.put 3 _ (unhide l2)⟩
end Go.Proofs.Ythelfgippiimiab
