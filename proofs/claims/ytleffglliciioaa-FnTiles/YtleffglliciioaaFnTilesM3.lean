/-
  DrawBx · DivI · FixI · Quot: texts of one claim, in one.
-/
import Derived.Test.YtleffglliciioaaFnTilesM2
import Derived.Test.YtleffglliciioaaFnTilesM1
import Derived.Deep.RegionHeld3

/-
  The walk of DrawBoxes: two drawn boxes and a drawn point.
-/
namespace Go.Proofs.Ytleffglliciioaa
open Go.RowKit

theorem DS.drew {w u : World} {g B : Nat} {a : Option Addr} {len cap : Nat} (h : DS w u g B a len cap) : DS w u.drew g B a len cap := h.calls (Below.refl _ _).drew
theorem DS.below' {w u W : World} {g B : Nat} {a : Option Addr} {len cap : Nat} (h : DS w u g B a len cap) (hb : Below B W w) (hw : B ≤ w.heap.size) : Below B W u := hb.grown h.gb hw (fun k hk => by cases hk; exact h.lg)

set_option maxHeartbeats 2000000 in
set_option maxRecDepth 100000 in
theorem drawBoxes_any (a : Option Addr) (len cap : Nat) (w : World) (hl : len ≤ 1048576) (hin : InB w.heap.size w a len) :
    Calls Try.prog 24 #[.slice a len cap] w fun e w' => ∃ x0 y0 x1 y1 x2 y2 x3 y3 x y : Int, ((0 ≤ x0 ∧ x0 ≤ 99) ∧ (0 ≤ y0 ∧ y0 ≤ 99) ∧ (0 ≤ x1 ∧ x1 ≤ 99) ∧ (0 ≤ y1 ∧ y1 ≤ 99)) ∧ ((0 ≤ x2 ∧ x2 ≤ 99) ∧ (0 ≤ y2 ∧ y2 ≤ 99) ∧ (0 ≤ x3 ∧ x3 ≤ 99) ∧ (0 ≤ y3 ∧ y3 ≤ 99)) ∧ ((0 ≤ x ∧ x ≤ 99) ∧ (0 ≤ y ∧ y ≤ 99)) ∧
      e = .returned (.tuple #[.agg #[.int .i64 x0, .int .i64 y0, .int .i64 x1, .int .i64 y1], .agg #[.int .i64 x2, .int .i64 y2, .int .i64 x3, .int .i64 y3], .agg #[.int .i64 x, .int .i64 y]]) ∧ Below w.heap.size w w' := by
  have HI := hide hin
  clear hin
  go_enter Try.func24, Try.ntmps24
  go_wp2_with fail
  obtain ⟨W, hW⟩ : ∃ W, W = ((w.alloc (.cells #[.int .i64 0, .int .i64 0, .int .i64 0, .int .i64 0] 25)).alloc (.cells #[.int .i64 0, .int .i64 0, .int .i64 0, .int .i64 0] 25)).alloc (.cells #[.int .i64 0, .int .i64 0] 45) := ⟨_, rfl⟩
  have H0 := hide (show W.heap[w.heap.size]? = some (.cells #[.int .i64 0, .int .i64 0, .int .i64 0, .int .i64 0] 25 (0, 0)) by rw [hW]; exact al3_0 _ _ _ _)
  have H1 := hide (show W.heap[w.heap.size + 1]? = some (.cells #[.int .i64 0, .int .i64 0, .int .i64 0, .int .i64 0] 25 (0, 0)) by rw [hW]; exact al3_1 _ _ _ _)
  have H2 := hide (show W.heap[w.heap.size + 1 + 1]? = some (.cells #[.int .i64 0, .int .i64 0] 45 (0, 0)) by rw [hW]; exact al3_2 _ _ _ _)
  have HB := hide (show Below w.heap.size w W by rw [hW]; exact al3_below _ _ _ _)
  rw [← hW]
  clear hW
  refine (l01New_any a len cap _ hl ((unhide HI).next (unhide HB))).mono ?_
  rintro e v1 ⟨g, hg, rfl, hc, hb1⟩
  have D1 := hide (DS.start hc (((unhide HI).next (unhide HB)).below hb1) hb1.size hg)
  have B1 := hide hb1
  clear hc hb1
  go_wp2_with fail
  refine (draw_any (unhide D1) hl 9 (by omega) (by omega)).mono ?_
  rintro e v2 ⟨n0, hn0, rfl, d2, g2⟩
  have sE2 := hide d2.size
  have E2 := hide d2
  clear d2 g2 D1
  go_wp2_with fail
  refine (draw_any (unhide E2) hl 9 (by omega) (by omega)).mono ?_
  rintro e v3 ⟨n1, hn1, rfl, d3, g3⟩
  have sE3 := hide d3.size
  have E3 := hide d3
  clear d3 g3 E2
  go_wp2_with fail
  obtain ⟨VA, hV⟩ : ∃ V, V = v3.alloc (.cells #[.int .i64 (n0 : Int), .int .i64 (n1 : Int), .int .i64 0, .int .i64 0] 25) := ⟨_, rfl⟩
  have A := hide (show VA.heap[v3.heap.size]? = some (.cells #[.int .i64 (n0 : Int), .int .i64 (n1 : Int), .int .i64 0, .int .i64 0] 25 (0, 0)) by rw [hV]; exact new_row _ _)
  have FA := hide (show DS v1 VA g W.heap.size a len cap by rw [hV]; exact (unhide E3).alloc _)
  have zA := hide (show v1.heap.size ≤ v3.heap.size from unhide sE3)
  rw [← hV]
  clear hV E3
  have k0 : ∀ u, VA.drew.grownBy u (some g) → u.cell? ⟨v3.heap.size, 0, none⟩ = some (.int .i64 (n0 : Int)) := fun u h => (row4 ((unhide FA).drew.heap h (unhide zA) (row_drew (unhide A)))).1
  have kD : VA.drew.cell? ⟨v3.heap.size, 0, none⟩ = some (.int .i64 (n0 : Int)) := (row4 (row_drew (unhide A))).1
  have kP : ∀ u v, VA.drew.grownBy u (some g) → (u.setCell ⟨v3.heap.size, 2, none⟩ v).cell? ⟨v3.heap.size, 0, none⟩ = some (.int .i64 (n0 : Int)) := fun u v h => (row4 (set4_2 ((unhide FA).drew.heap h (unhide zA) (row_drew (unhide A))))).1
  replace k0 := hide k0
  replace kD := hide kD
  replace kP := hide kP
  go_region_held3 (fun u => u.cell? ⟨v3.heap.size, 0, none⟩ = some (.int .i64 (n0 : Int))) (first | with_reducible exact unhide kD | (with_reducible refine unhide k0 _ ?_; with_reducible assumption) | (with_reducible refine unhide kP _ _ ?_; with_reducible assumption)) (first | (go_at_call 38; refine (draw_any (unhide FA).drew hl 9 (by omega) (by omega)).mono ?_; rintro e v4 ⟨n2, hn2, rfl, d4, g4⟩; have A5 := (unhide FA).drew.heap g4 (unhide zA) (row_drew (unhide A)); obtain ⟨a0, a1, a2, a3⟩ := row4 A5; obtain ⟨f0, f1, f2, f3⟩ := free4 A5; have vv : IntKind.i64.wrap ((n0 : Int) + (n2 : Int)) = (n0 : Int) + (n2 : Int) := IntWalk.i64_in _ (by omega)))
  rename_i hH
  clear hH k0 kD kP a0 a1 a2 a3 f0 f1 f2 f3 vv
  obtain ⟨V4, hV⟩ : ∃ V, V = v4.setCell ⟨v3.heap.size, 2, none⟩ (.int .i64 ((n0 : Int) + (n2 : Int))) := ⟨_, rfl⟩
  replace A := hide (show V4.heap[v3.heap.size]? = some (.cells #[.int .i64 (n0 : Int), .int .i64 (n1 : Int), .int .i64 ((n0 : Int) + (n2 : Int)), .int .i64 0] 25 (0, 0)) by rw [hV]; exact set4_2 A5)
  have E4 := hide (show DS v1 V4 g W.heap.size a len cap by rw [hV]; exact d4.put 2 _ (unhide zA))
  rw [← hV]
  clear hV A5 d4 g4 FA
  go_wp2_with fail
  have k0 : ∀ u, V4.drew.grownBy u (some g) → u.cell? ⟨v3.heap.size, 1, none⟩ = some (.int .i64 (n1 : Int)) := fun u h => (row4 ((unhide E4).drew.heap h (unhide zA) (row_drew (unhide A)))).2.1
  have kD : V4.drew.cell? ⟨v3.heap.size, 1, none⟩ = some (.int .i64 (n1 : Int)) := (row4 (row_drew (unhide A))).2.1
  have kP : ∀ u v, V4.drew.grownBy u (some g) → (u.setCell ⟨v3.heap.size, 3, none⟩ v).cell? ⟨v3.heap.size, 1, none⟩ = some (.int .i64 (n1 : Int)) := fun u v h => (row4 (set4_3 ((unhide E4).drew.heap h (unhide zA) (row_drew (unhide A))))).2.1
  replace k0 := hide k0
  replace kD := hide kD
  replace kP := hide kP
  go_region_held3 (fun u => u.cell? ⟨v3.heap.size, 1, none⟩ = some (.int .i64 (n1 : Int))) (first | with_reducible exact unhide kD | (with_reducible refine unhide k0 _ ?_; with_reducible assumption) | (with_reducible refine unhide kP _ _ ?_; with_reducible assumption)) (first | (go_at_call 38; refine (draw_any (unhide E4).drew hl 9 (by omega) (by omega)).mono ?_; rintro e v5 ⟨n3, hn3, rfl, d5, g5⟩; have A5 := (unhide E4).drew.heap g5 (unhide zA) (row_drew (unhide A)); obtain ⟨a0, a1, a2, a3⟩ := row4 A5; obtain ⟨f0, f1, f2, f3⟩ := free4 A5; have vv : IntKind.i64.wrap ((n1 : Int) + (n3 : Int)) = (n1 : Int) + (n3 : Int) := IntWalk.i64_in _ (by omega)))
  rename_i hH
  clear hH k0 kD kP a0 a1 a2 a3 f0 f1 f2 f3 vv
  obtain ⟨V5, hV⟩ : ∃ V, V = v5.setCell ⟨v3.heap.size, 3, none⟩ (.int .i64 ((n1 : Int) + (n3 : Int))) := ⟨_, rfl⟩
  replace A := hide (show V5.heap[v3.heap.size]? = some (.cells #[.int .i64 (n0 : Int), .int .i64 (n1 : Int), .int .i64 ((n0 : Int) + (n2 : Int)), .int .i64 ((n1 : Int) + (n3 : Int))] 25 (0, 0)) by rw [hV]; exact set4_3 A5)
  have E5 := hide (show DS v1 V5 g W.heap.size a len cap by rw [hV]; exact d5.put 3 _ (unhide zA))
  rw [← hV]
  clear hV A5 d5 g5 E4
  go_wp2_with fail
  refine (draw_any (unhide E5) hl 9 (by omega) (by omega)).mono ?_
  rintro e v6 ⟨n4, hn4, rfl, d6, g6⟩
  replace A := hide ((unhide E5).heap g6 (unhide zA) (unhide A))
  have sE6 := hide d6.size
  have E6 := hide d6
  clear d6 g6 E5
  go_wp2_with fail
  refine (draw_any (unhide E6) hl 9 (by omega) (by omega)).mono ?_
  rintro e v7 ⟨n5, hn5, rfl, d7, g7⟩
  replace A := hide ((unhide E6).heap g7 (unhide zA) (unhide A))
  have sE7 := hide d7.size
  have E7 := hide d7
  clear d7 g7 E6
  go_wp2_with fail
  obtain ⟨VQ, hV⟩ : ∃ V, V = v7.alloc (.cells #[.int .i64 (n4 : Int), .int .i64 (n5 : Int), .int .i64 0, .int .i64 0] 25) := ⟨_, rfl⟩
  have ne := hide (show v3.heap.size ≠ v7.heap.size from fun e => by have := heap_lt (unhide A); omega)
  replace A := hide (show VQ.heap[v3.heap.size]? = some (.cells #[.int .i64 (n0 : Int), .int .i64 (n1 : Int), .int .i64 ((n0 : Int) + (n2 : Int)), .int .i64 ((n1 : Int) + (n3 : Int))] 25 (0, 0)) by rw [hV]; exact old_row _ (unhide A))
  have Q := hide (show VQ.heap[v7.heap.size]? = some (.cells #[.int .i64 (n4 : Int), .int .i64 (n5 : Int), .int .i64 0, .int .i64 0] 25 (0, 0)) by rw [hV]; exact new_row _ _)
  have FQ := hide (show DS v1 VQ g W.heap.size a len cap by rw [hV]; exact (unhide E7).alloc _)
  have zQ := hide (show v1.heap.size ≤ v7.heap.size from unhide sE7)
  rw [← hV]
  clear hV E7
  have k0 : ∀ u, VQ.drew.grownBy u (some g) → u.cell? ⟨v7.heap.size, 0, none⟩ = some (.int .i64 (n4 : Int)) := fun u h => (row4 ((unhide FQ).drew.heap h (unhide zQ) (row_drew (unhide Q)))).1
  have kD : VQ.drew.cell? ⟨v7.heap.size, 0, none⟩ = some (.int .i64 (n4 : Int)) := (row4 (row_drew (unhide Q))).1
  have kP : ∀ u v, VQ.drew.grownBy u (some g) → (u.setCell ⟨v7.heap.size, 2, none⟩ v).cell? ⟨v7.heap.size, 0, none⟩ = some (.int .i64 (n4 : Int)) := fun u v h => (row4 (set4_2 ((unhide FQ).drew.heap h (unhide zQ) (row_drew (unhide Q))))).1
  replace k0 := hide k0
  replace kD := hide kD
  replace kP := hide kP
  go_region_held3 (fun u => u.cell? ⟨v7.heap.size, 0, none⟩ = some (.int .i64 (n4 : Int))) (first | with_reducible exact unhide kD | (with_reducible refine unhide k0 _ ?_; with_reducible assumption) | (with_reducible refine unhide kP _ _ ?_; with_reducible assumption)) (first | (go_at_call 38; refine (draw_any (unhide FQ).drew hl 9 (by omega) (by omega)).mono ?_; rintro e v8 ⟨n6, hn6, rfl, d8, g8⟩; have A5 := (unhide FQ).drew.heap g8 (unhide zQ) (row_drew (unhide Q)); obtain ⟨a0, a1, a2, a3⟩ := row4 A5; obtain ⟨f0, f1, f2, f3⟩ := free4 A5; have vv : IntKind.i64.wrap ((n4 : Int) + (n6 : Int)) = (n4 : Int) + (n6 : Int) := IntWalk.i64_in _ (by omega)))
  rename_i hH
  clear hH k0 kD kP a0 a1 a2 a3 f0 f1 f2 f3 vv
  obtain ⟨V8, hV⟩ : ∃ V, V = v8.setCell ⟨v7.heap.size, 2, none⟩ (.int .i64 ((n4 : Int) + (n6 : Int))) := ⟨_, rfl⟩
  replace A := hide (show V8.heap[v3.heap.size]? = some (.cells #[.int .i64 (n0 : Int), .int .i64 (n1 : Int), .int .i64 ((n0 : Int) + (n2 : Int)), .int .i64 ((n1 : Int) + (n3 : Int))] 25 (0, 0)) by rw [hV]; exact setc_other (unhide ne) ((unhide FQ).drew.heap g8 (unhide zA) (row_drew (unhide A))))
  replace Q := hide (show V8.heap[v7.heap.size]? = some (.cells #[.int .i64 (n4 : Int), .int .i64 (n5 : Int), .int .i64 ((n4 : Int) + (n6 : Int)), .int .i64 0] 25 (0, 0)) by rw [hV]; exact set4_2 A5)
  have E8 := hide (show DS v1 V8 g W.heap.size a len cap by rw [hV]; exact d8.put 2 _ (unhide zQ))
  rw [← hV]
  clear hV A5 d8 g8 FQ
  go_wp2_with fail
  have k0 : ∀ u, V8.drew.grownBy u (some g) → u.cell? ⟨v7.heap.size, 1, none⟩ = some (.int .i64 (n5 : Int)) := fun u h => (row4 ((unhide E8).drew.heap h (unhide zQ) (row_drew (unhide Q)))).2.1
  have kD : V8.drew.cell? ⟨v7.heap.size, 1, none⟩ = some (.int .i64 (n5 : Int)) := (row4 (row_drew (unhide Q))).2.1
  have kP : ∀ u v, V8.drew.grownBy u (some g) → (u.setCell ⟨v7.heap.size, 3, none⟩ v).cell? ⟨v7.heap.size, 1, none⟩ = some (.int .i64 (n5 : Int)) := fun u v h => (row4 (set4_3 ((unhide E8).drew.heap h (unhide zQ) (row_drew (unhide Q))))).2.1
  replace k0 := hide k0
  replace kD := hide kD
  replace kP := hide kP
  go_region_held3 (fun u => u.cell? ⟨v7.heap.size, 1, none⟩ = some (.int .i64 (n5 : Int))) (first | with_reducible exact unhide kD | (with_reducible refine unhide k0 _ ?_; with_reducible assumption) | (with_reducible refine unhide kP _ _ ?_; with_reducible assumption)) (first | (go_at_call 38; refine (draw_any (unhide E8).drew hl 9 (by omega) (by omega)).mono ?_; rintro e v9 ⟨n7, hn7, rfl, d9, g9⟩; have A5 := (unhide E8).drew.heap g9 (unhide zQ) (row_drew (unhide Q)); obtain ⟨a0, a1, a2, a3⟩ := row4 A5; obtain ⟨f0, f1, f2, f3⟩ := free4 A5; have vv : IntKind.i64.wrap ((n5 : Int) + (n7 : Int)) = (n5 : Int) + (n7 : Int) := IntWalk.i64_in _ (by omega)))
  rename_i hH
  clear hH k0 kD kP a0 a1 a2 a3 f0 f1 f2 f3 vv
  obtain ⟨V9, hV⟩ : ∃ V, V = v9.setCell ⟨v7.heap.size, 3, none⟩ (.int .i64 ((n5 : Int) + (n7 : Int))) := ⟨_, rfl⟩
  replace A := hide (show V9.heap[v3.heap.size]? = some (.cells #[.int .i64 (n0 : Int), .int .i64 (n1 : Int), .int .i64 ((n0 : Int) + (n2 : Int)), .int .i64 ((n1 : Int) + (n3 : Int))] 25 (0, 0)) by rw [hV]; exact setc_other (unhide ne) ((unhide E8).drew.heap g9 (unhide zA) (row_drew (unhide A))))
  replace Q := hide (show V9.heap[v7.heap.size]? = some (.cells #[.int .i64 (n4 : Int), .int .i64 (n5 : Int), .int .i64 ((n4 : Int) + (n6 : Int)), .int .i64 ((n5 : Int) + (n7 : Int))] 25 (0, 0)) by rw [hV]; exact set4_3 A5)
  have E9 := hide (show DS v1 V9 g W.heap.size a len cap by rw [hV]; exact d9.put 3 _ (unhide zQ))
  rw [← hV]
  clear hV A5 d9 g9 E8
  go_wp2_with fail
  have hlo := hide (show w.heap.size + 1 + 1 < v1.heap.size from Nat.lt_of_lt_of_le (heap_lt (unhide H2)) (unhide B1).size)
  have nA : ∀ k, k ≤ w.heap.size + 1 + 1 → v3.heap.size ≠ k := fun k hk e => by have := unhide hlo; have := unhide zA; omega
  have nQ : ∀ k, k ≤ w.heap.size + 1 + 1 → v7.heap.size ≠ k := fun k hk e => by have := unhide hlo; have := unhide zQ; omega
  have k9 : ∀ u : World, u.heap[v3.heap.size]? = some (.cells #[.int .i64 (n0 : Int), .int .i64 (n1 : Int), .int .i64 ((n0 : Int) + (n2 : Int)), .int .i64 ((n1 : Int) + (n3 : Int))] 25 (0, 0)) → u.heap[v7.heap.size]? = some (.cells #[.int .i64 (n4 : Int), .int .i64 (n5 : Int), .int .i64 ((n4 : Int) + (n6 : Int)), .int .i64 ((n5 : Int) + (n7 : Int))] 25 (0, 0)) → (u.cell? ⟨v3.heap.size, 0, none⟩ = some (.int .i64 (n0 : Int)) ∧ u.cell? ⟨v3.heap.size, 1, none⟩ = some (.int .i64 (n1 : Int)) ∧ u.cell? ⟨v3.heap.size, 2, none⟩ = some (.int .i64 ((n0 : Int) + (n2 : Int))) ∧ u.cell? ⟨v3.heap.size, 3, none⟩ = some (.int .i64 ((n1 : Int) + (n3 : Int))) ∧ u.cell? ⟨v7.heap.size, 0, none⟩ = some (.int .i64 (n4 : Int)) ∧ u.cell? ⟨v7.heap.size, 1, none⟩ = some (.int .i64 (n5 : Int)) ∧ u.cell? ⟨v7.heap.size, 2, none⟩ = some (.int .i64 ((n4 : Int) + (n6 : Int))) ∧ u.cell? ⟨v7.heap.size, 3, none⟩ = some (.int .i64 ((n5 : Int) + (n7 : Int)))) := fun u h1 h2 => by
    obtain ⟨a0, a1, a2, a3⟩ := row4 h1
    obtain ⟨b0, b1, b2, b3⟩ := row4 h2
    exact ⟨a0, a1, a2, a3, b0, b1, b2, b3⟩
  have kD : (V9.drew.cell? ⟨v3.heap.size, 0, none⟩ = some (.int .i64 (n0 : Int)) ∧ V9.drew.cell? ⟨v3.heap.size, 1, none⟩ = some (.int .i64 (n1 : Int)) ∧ V9.drew.cell? ⟨v3.heap.size, 2, none⟩ = some (.int .i64 ((n0 : Int) + (n2 : Int))) ∧ V9.drew.cell? ⟨v3.heap.size, 3, none⟩ = some (.int .i64 ((n1 : Int) + (n3 : Int))) ∧ V9.drew.cell? ⟨v7.heap.size, 0, none⟩ = some (.int .i64 (n4 : Int)) ∧ V9.drew.cell? ⟨v7.heap.size, 1, none⟩ = some (.int .i64 (n5 : Int)) ∧ V9.drew.cell? ⟨v7.heap.size, 2, none⟩ = some (.int .i64 ((n4 : Int) + (n6 : Int))) ∧ V9.drew.cell? ⟨v7.heap.size, 3, none⟩ = some (.int .i64 ((n5 : Int) + (n7 : Int)))) := k9 _ (row_drew (unhide A)) (row_drew (unhide Q))
  have k0 : ∀ u : World, V9.drew.grownBy u (some g) → (u.cell? ⟨v3.heap.size, 0, none⟩ = some (.int .i64 (n0 : Int)) ∧ u.cell? ⟨v3.heap.size, 1, none⟩ = some (.int .i64 (n1 : Int)) ∧ u.cell? ⟨v3.heap.size, 2, none⟩ = some (.int .i64 ((n0 : Int) + (n2 : Int))) ∧ u.cell? ⟨v3.heap.size, 3, none⟩ = some (.int .i64 ((n1 : Int) + (n3 : Int))) ∧ u.cell? ⟨v7.heap.size, 0, none⟩ = some (.int .i64 (n4 : Int)) ∧ u.cell? ⟨v7.heap.size, 1, none⟩ = some (.int .i64 (n5 : Int)) ∧ u.cell? ⟨v7.heap.size, 2, none⟩ = some (.int .i64 ((n4 : Int) + (n6 : Int))) ∧ u.cell? ⟨v7.heap.size, 3, none⟩ = some (.int .i64 ((n5 : Int) + (n7 : Int)))) := fun u h => k9 _ ((unhide E9).drew.heap h (unhide zA) (row_drew (unhide A))) ((unhide E9).drew.heap h (unhide zQ) (row_drew (unhide Q)))
  have kP0 : ∀ (u : World) (x y z t : Value), V9.drew.grownBy u (some g) → (((((u.setCell ⟨w.heap.size, 0, none⟩ x).setCell ⟨w.heap.size, 1, none⟩ y).setCell ⟨w.heap.size, 2, none⟩ z).setCell ⟨w.heap.size, 3, none⟩ t).cell? ⟨v3.heap.size, 0, none⟩ = some (.int .i64 (n0 : Int)) ∧ ((((u.setCell ⟨w.heap.size, 0, none⟩ x).setCell ⟨w.heap.size, 1, none⟩ y).setCell ⟨w.heap.size, 2, none⟩ z).setCell ⟨w.heap.size, 3, none⟩ t).cell? ⟨v3.heap.size, 1, none⟩ = some (.int .i64 (n1 : Int)) ∧ ((((u.setCell ⟨w.heap.size, 0, none⟩ x).setCell ⟨w.heap.size, 1, none⟩ y).setCell ⟨w.heap.size, 2, none⟩ z).setCell ⟨w.heap.size, 3, none⟩ t).cell? ⟨v3.heap.size, 2, none⟩ = some (.int .i64 ((n0 : Int) + (n2 : Int))) ∧ ((((u.setCell ⟨w.heap.size, 0, none⟩ x).setCell ⟨w.heap.size, 1, none⟩ y).setCell ⟨w.heap.size, 2, none⟩ z).setCell ⟨w.heap.size, 3, none⟩ t).cell? ⟨v3.heap.size, 3, none⟩ = some (.int .i64 ((n1 : Int) + (n3 : Int))) ∧ ((((u.setCell ⟨w.heap.size, 0, none⟩ x).setCell ⟨w.heap.size, 1, none⟩ y).setCell ⟨w.heap.size, 2, none⟩ z).setCell ⟨w.heap.size, 3, none⟩ t).cell? ⟨v7.heap.size, 0, none⟩ = some (.int .i64 (n4 : Int)) ∧ ((((u.setCell ⟨w.heap.size, 0, none⟩ x).setCell ⟨w.heap.size, 1, none⟩ y).setCell ⟨w.heap.size, 2, none⟩ z).setCell ⟨w.heap.size, 3, none⟩ t).cell? ⟨v7.heap.size, 1, none⟩ = some (.int .i64 (n5 : Int)) ∧ ((((u.setCell ⟨w.heap.size, 0, none⟩ x).setCell ⟨w.heap.size, 1, none⟩ y).setCell ⟨w.heap.size, 2, none⟩ z).setCell ⟨w.heap.size, 3, none⟩ t).cell? ⟨v7.heap.size, 2, none⟩ = some (.int .i64 ((n4 : Int) + (n6 : Int))) ∧ ((((u.setCell ⟨w.heap.size, 0, none⟩ x).setCell ⟨w.heap.size, 1, none⟩ y).setCell ⟨w.heap.size, 2, none⟩ z).setCell ⟨w.heap.size, 3, none⟩ t).cell? ⟨v7.heap.size, 3, none⟩ = some (.int .i64 ((n5 : Int) + (n7 : Int)))) := fun u x y z t h => k9 _ (put4_other (nA _ (by omega)) ((unhide E9).drew.heap h (unhide zA) (row_drew (unhide A)))) (put4_other (nQ _ (by omega)) ((unhide E9).drew.heap h (unhide zQ) (row_drew (unhide Q))))
  have kP1 : ∀ (u : World) (x y z t x' y' z' t' : Value), V9.drew.grownBy u (some g) → (((((((((u.setCell ⟨w.heap.size, 0, none⟩ x).setCell ⟨w.heap.size, 1, none⟩ y).setCell ⟨w.heap.size, 2, none⟩ z).setCell ⟨w.heap.size, 3, none⟩ t).setCell ⟨w.heap.size + 1, 0, none⟩ x').setCell ⟨w.heap.size + 1, 1, none⟩ y').setCell ⟨w.heap.size + 1, 2, none⟩ z').setCell ⟨w.heap.size + 1, 3, none⟩ t').cell? ⟨v3.heap.size, 0, none⟩ = some (.int .i64 (n0 : Int)) ∧ ((((((((u.setCell ⟨w.heap.size, 0, none⟩ x).setCell ⟨w.heap.size, 1, none⟩ y).setCell ⟨w.heap.size, 2, none⟩ z).setCell ⟨w.heap.size, 3, none⟩ t).setCell ⟨w.heap.size + 1, 0, none⟩ x').setCell ⟨w.heap.size + 1, 1, none⟩ y').setCell ⟨w.heap.size + 1, 2, none⟩ z').setCell ⟨w.heap.size + 1, 3, none⟩ t').cell? ⟨v3.heap.size, 1, none⟩ = some (.int .i64 (n1 : Int)) ∧ ((((((((u.setCell ⟨w.heap.size, 0, none⟩ x).setCell ⟨w.heap.size, 1, none⟩ y).setCell ⟨w.heap.size, 2, none⟩ z).setCell ⟨w.heap.size, 3, none⟩ t).setCell ⟨w.heap.size + 1, 0, none⟩ x').setCell ⟨w.heap.size + 1, 1, none⟩ y').setCell ⟨w.heap.size + 1, 2, none⟩ z').setCell ⟨w.heap.size + 1, 3, none⟩ t').cell? ⟨v3.heap.size, 2, none⟩ = some (.int .i64 ((n0 : Int) + (n2 : Int))) ∧ ((((((((u.setCell ⟨w.heap.size, 0, none⟩ x).setCell ⟨w.heap.size, 1, none⟩ y).setCell ⟨w.heap.size, 2, none⟩ z).setCell ⟨w.heap.size, 3, none⟩ t).setCell ⟨w.heap.size + 1, 0, none⟩ x').setCell ⟨w.heap.size + 1, 1, none⟩ y').setCell ⟨w.heap.size + 1, 2, none⟩ z').setCell ⟨w.heap.size + 1, 3, none⟩ t').cell? ⟨v3.heap.size, 3, none⟩ = some (.int .i64 ((n1 : Int) + (n3 : Int))) ∧ ((((((((u.setCell ⟨w.heap.size, 0, none⟩ x).setCell ⟨w.heap.size, 1, none⟩ y).setCell ⟨w.heap.size, 2, none⟩ z).setCell ⟨w.heap.size, 3, none⟩ t).setCell ⟨w.heap.size + 1, 0, none⟩ x').setCell ⟨w.heap.size + 1, 1, none⟩ y').setCell ⟨w.heap.size + 1, 2, none⟩ z').setCell ⟨w.heap.size + 1, 3, none⟩ t').cell? ⟨v7.heap.size, 0, none⟩ = some (.int .i64 (n4 : Int)) ∧ ((((((((u.setCell ⟨w.heap.size, 0, none⟩ x).setCell ⟨w.heap.size, 1, none⟩ y).setCell ⟨w.heap.size, 2, none⟩ z).setCell ⟨w.heap.size, 3, none⟩ t).setCell ⟨w.heap.size + 1, 0, none⟩ x').setCell ⟨w.heap.size + 1, 1, none⟩ y').setCell ⟨w.heap.size + 1, 2, none⟩ z').setCell ⟨w.heap.size + 1, 3, none⟩ t').cell? ⟨v7.heap.size, 1, none⟩ = some (.int .i64 (n5 : Int)) ∧ ((((((((u.setCell ⟨w.heap.size, 0, none⟩ x).setCell ⟨w.heap.size, 1, none⟩ y).setCell ⟨w.heap.size, 2, none⟩ z).setCell ⟨w.heap.size, 3, none⟩ t).setCell ⟨w.heap.size + 1, 0, none⟩ x').setCell ⟨w.heap.size + 1, 1, none⟩ y').setCell ⟨w.heap.size + 1, 2, none⟩ z').setCell ⟨w.heap.size + 1, 3, none⟩ t').cell? ⟨v7.heap.size, 2, none⟩ = some (.int .i64 ((n4 : Int) + (n6 : Int))) ∧ ((((((((u.setCell ⟨w.heap.size, 0, none⟩ x).setCell ⟨w.heap.size, 1, none⟩ y).setCell ⟨w.heap.size, 2, none⟩ z).setCell ⟨w.heap.size, 3, none⟩ t).setCell ⟨w.heap.size + 1, 0, none⟩ x').setCell ⟨w.heap.size + 1, 1, none⟩ y').setCell ⟨w.heap.size + 1, 2, none⟩ z').setCell ⟨w.heap.size + 1, 3, none⟩ t').cell? ⟨v7.heap.size, 3, none⟩ = some (.int .i64 ((n5 : Int) + (n7 : Int)))) := fun u x y z t x' y' z' t' h => k9 _ (put4_other (nA _ (by omega)) (put4_other (nA _ (by omega)) ((unhide E9).drew.heap h (unhide zA) (row_drew (unhide A))))) (put4_other (nQ _ (by omega)) (put4_other (nQ _ (by omega)) ((unhide E9).drew.heap h (unhide zQ) (row_drew (unhide Q)))))
  have kP2 : ∀ (u : World) (x y z t x' y' z' t' x2 y2 : Value), V9.drew.grownBy u (some g) → (((((((((((u.setCell ⟨w.heap.size, 0, none⟩ x).setCell ⟨w.heap.size, 1, none⟩ y).setCell ⟨w.heap.size, 2, none⟩ z).setCell ⟨w.heap.size, 3, none⟩ t).setCell ⟨w.heap.size + 1, 0, none⟩ x').setCell ⟨w.heap.size + 1, 1, none⟩ y').setCell ⟨w.heap.size + 1, 2, none⟩ z').setCell ⟨w.heap.size + 1, 3, none⟩ t').setCell ⟨w.heap.size + 1 + 1, 0, none⟩ x2).setCell ⟨w.heap.size + 1 + 1, 1, none⟩ y2).cell? ⟨v3.heap.size, 0, none⟩ = some (.int .i64 (n0 : Int)) ∧ ((((((((((u.setCell ⟨w.heap.size, 0, none⟩ x).setCell ⟨w.heap.size, 1, none⟩ y).setCell ⟨w.heap.size, 2, none⟩ z).setCell ⟨w.heap.size, 3, none⟩ t).setCell ⟨w.heap.size + 1, 0, none⟩ x').setCell ⟨w.heap.size + 1, 1, none⟩ y').setCell ⟨w.heap.size + 1, 2, none⟩ z').setCell ⟨w.heap.size + 1, 3, none⟩ t').setCell ⟨w.heap.size + 1 + 1, 0, none⟩ x2).setCell ⟨w.heap.size + 1 + 1, 1, none⟩ y2).cell? ⟨v3.heap.size, 1, none⟩ = some (.int .i64 (n1 : Int)) ∧ ((((((((((u.setCell ⟨w.heap.size, 0, none⟩ x).setCell ⟨w.heap.size, 1, none⟩ y).setCell ⟨w.heap.size, 2, none⟩ z).setCell ⟨w.heap.size, 3, none⟩ t).setCell ⟨w.heap.size + 1, 0, none⟩ x').setCell ⟨w.heap.size + 1, 1, none⟩ y').setCell ⟨w.heap.size + 1, 2, none⟩ z').setCell ⟨w.heap.size + 1, 3, none⟩ t').setCell ⟨w.heap.size + 1 + 1, 0, none⟩ x2).setCell ⟨w.heap.size + 1 + 1, 1, none⟩ y2).cell? ⟨v3.heap.size, 2, none⟩ = some (.int .i64 ((n0 : Int) + (n2 : Int))) ∧ ((((((((((u.setCell ⟨w.heap.size, 0, none⟩ x).setCell ⟨w.heap.size, 1, none⟩ y).setCell ⟨w.heap.size, 2, none⟩ z).setCell ⟨w.heap.size, 3, none⟩ t).setCell ⟨w.heap.size + 1, 0, none⟩ x').setCell ⟨w.heap.size + 1, 1, none⟩ y').setCell ⟨w.heap.size + 1, 2, none⟩ z').setCell ⟨w.heap.size + 1, 3, none⟩ t').setCell ⟨w.heap.size + 1 + 1, 0, none⟩ x2).setCell ⟨w.heap.size + 1 + 1, 1, none⟩ y2).cell? ⟨v3.heap.size, 3, none⟩ = some (.int .i64 ((n1 : Int) + (n3 : Int))) ∧ ((((((((((u.setCell ⟨w.heap.size, 0, none⟩ x).setCell ⟨w.heap.size, 1, none⟩ y).setCell ⟨w.heap.size, 2, none⟩ z).setCell ⟨w.heap.size, 3, none⟩ t).setCell ⟨w.heap.size + 1, 0, none⟩ x').setCell ⟨w.heap.size + 1, 1, none⟩ y').setCell ⟨w.heap.size + 1, 2, none⟩ z').setCell ⟨w.heap.size + 1, 3, none⟩ t').setCell ⟨w.heap.size + 1 + 1, 0, none⟩ x2).setCell ⟨w.heap.size + 1 + 1, 1, none⟩ y2).cell? ⟨v7.heap.size, 0, none⟩ = some (.int .i64 (n4 : Int)) ∧ ((((((((((u.setCell ⟨w.heap.size, 0, none⟩ x).setCell ⟨w.heap.size, 1, none⟩ y).setCell ⟨w.heap.size, 2, none⟩ z).setCell ⟨w.heap.size, 3, none⟩ t).setCell ⟨w.heap.size + 1, 0, none⟩ x').setCell ⟨w.heap.size + 1, 1, none⟩ y').setCell ⟨w.heap.size + 1, 2, none⟩ z').setCell ⟨w.heap.size + 1, 3, none⟩ t').setCell ⟨w.heap.size + 1 + 1, 0, none⟩ x2).setCell ⟨w.heap.size + 1 + 1, 1, none⟩ y2).cell? ⟨v7.heap.size, 1, none⟩ = some (.int .i64 (n5 : Int)) ∧ ((((((((((u.setCell ⟨w.heap.size, 0, none⟩ x).setCell ⟨w.heap.size, 1, none⟩ y).setCell ⟨w.heap.size, 2, none⟩ z).setCell ⟨w.heap.size, 3, none⟩ t).setCell ⟨w.heap.size + 1, 0, none⟩ x').setCell ⟨w.heap.size + 1, 1, none⟩ y').setCell ⟨w.heap.size + 1, 2, none⟩ z').setCell ⟨w.heap.size + 1, 3, none⟩ t').setCell ⟨w.heap.size + 1 + 1, 0, none⟩ x2).setCell ⟨w.heap.size + 1 + 1, 1, none⟩ y2).cell? ⟨v7.heap.size, 2, none⟩ = some (.int .i64 ((n4 : Int) + (n6 : Int))) ∧ ((((((((((u.setCell ⟨w.heap.size, 0, none⟩ x).setCell ⟨w.heap.size, 1, none⟩ y).setCell ⟨w.heap.size, 2, none⟩ z).setCell ⟨w.heap.size, 3, none⟩ t).setCell ⟨w.heap.size + 1, 0, none⟩ x').setCell ⟨w.heap.size + 1, 1, none⟩ y').setCell ⟨w.heap.size + 1, 2, none⟩ z').setCell ⟨w.heap.size + 1, 3, none⟩ t').setCell ⟨w.heap.size + 1 + 1, 0, none⟩ x2).setCell ⟨w.heap.size + 1 + 1, 1, none⟩ y2).cell? ⟨v7.heap.size, 3, none⟩ = some (.int .i64 ((n5 : Int) + (n7 : Int)))) := fun u x y z t x' y' z' t' x2 y2 h => k9 _ (put2_other (nA _ (by omega)) (put4_other (nA _ (by omega)) (put4_other (nA _ (by omega)) ((unhide E9).drew.heap h (unhide zA) (row_drew (unhide A)))))) (put2_other (nQ _ (by omega)) (put4_other (nQ _ (by omega)) (put4_other (nQ _ (by omega)) ((unhide E9).drew.heap h (unhide zQ) (row_drew (unhide Q))))))
  replace k0 := hide k0
  replace kD := hide kD
  replace kP0 := hide kP0
  replace kP1 := hide kP1
  replace kP2 := hide kP2
  clear k9 nA nQ
  go_region_held3 (fun u => u.cell? ⟨v3.heap.size, 0, none⟩ = some (.int .i64 (n0 : Int)) ∧ u.cell? ⟨v3.heap.size, 1, none⟩ = some (.int .i64 (n1 : Int)) ∧ u.cell? ⟨v3.heap.size, 2, none⟩ = some (.int .i64 ((n0 : Int) + (n2 : Int))) ∧ u.cell? ⟨v3.heap.size, 3, none⟩ = some (.int .i64 ((n1 : Int) + (n3 : Int))) ∧ u.cell? ⟨v7.heap.size, 0, none⟩ = some (.int .i64 (n4 : Int)) ∧ u.cell? ⟨v7.heap.size, 1, none⟩ = some (.int .i64 (n5 : Int)) ∧ u.cell? ⟨v7.heap.size, 2, none⟩ = some (.int .i64 ((n4 : Int) + (n6 : Int))) ∧ u.cell? ⟨v7.heap.size, 3, none⟩ = some (.int .i64 ((n5 : Int) + (n7 : Int)))) (first | with_reducible exact unhide kD | (with_reducible refine unhide k0 _ ?_; with_reducible assumption) | (with_reducible refine unhide kP0 _ _ _ _ _ ?_; with_reducible assumption) | (with_reducible refine unhide kP1 _ _ _ _ _ _ _ _ _ ?_; with_reducible assumption) | (with_reducible refine unhide kP2 _ _ _ _ _ _ _ _ _ _ _ ?_; with_reducible assumption)) (first | (go_at_call 38; have zz := gx; refine (draw_any (unhide Ex) hl 18 (by omega) (by omega)).mono ?_; rintro e vy ⟨m1, hm1, rfl, dy, gy'⟩; have gy := grown_trans gx gy'; clear gy'; have hby := dy.below' (unhide B1) (unhide B1).size; have r0 := row_next hby (unhide H0); have r1 := row_next hby (unhide H1); have r2 := row_next hby (unhide H2); obtain ⟨c0, c1, c2, c3⟩ := row4 r0; obtain ⟨c4, c5, c6, c7⟩ := row4 r1; obtain ⟨c8, c9⟩ := row2 r2; obtain ⟨f0, f1, f2, f3⟩ := free4 r0; obtain ⟨f4, f5, f6, f7⟩ := free4 r1; obtain ⟨f8, f9⟩ := free2 r2) | (go_at_call 38; refine (draw_any (unhide E9).drew hl 18 (by omega) (by omega)).mono ?_; rintro e vx ⟨m0, hm0, rfl, dx, gx⟩; have Ex := hide dx; clear dx))
  all_goals
    rename_i hH
    clear hH
    go_wp2_with fail
    refine bodyPost_ret (v := .tuple #[.agg #[.int .i64 (n0 : Int), .int .i64 (n1 : Int), .int .i64 ((n0 : Int) + (n2 : Int)), .int .i64 ((n1 : Int) + (n3 : Int))], .agg #[.int .i64 (n4 : Int), .int .i64 (n5 : Int), .int .i64 ((n4 : Int) + (n6 : Int)), .int .i64 ((n5 : Int) + (n7 : Int))], .agg #[.int .i64 (m0 : Int), .int .i64 (m1 : Int)]]) (by simp [results, Try.results24, go_sem, *]) rfl ⟨(n0 : Int), (n1 : Int), ((n0 : Int) + (n2 : Int)), ((n1 : Int) + (n3 : Int)), (n4 : Int), (n5 : Int), ((n4 : Int) + (n6 : Int)), ((n5 : Int) + (n7 : Int)), m0, m1, ⟨⟨by omega, by omega⟩, ⟨by omega, by omega⟩, ⟨by omega, by omega⟩, ⟨by omega, by omega⟩⟩, ⟨⟨by omega, by omega⟩, ⟨by omega, by omega⟩, ⟨by omega, by omega⟩, ⟨by omega, by omega⟩⟩, ⟨⟨by omega, by omega⟩, ⟨by omega, by omega⟩⟩, rfl, ?_⟩
    exact below_put2 (below_put4 (below_put4 (below_two (unhide HB) hby) (by omega) _ _ _ _) (by omega) _ _ _ _) (by omega) _ _
end Go.Proofs.Ytleffglliciioaa

/-
  The walk of the program's divisions: down, and what is left.
-/
namespace Go.Proofs.Ytleffglliciioaa
open Go.RowKit

/-- What a division answers: down, the rest, and by what. -/
def dDown (a b : Int) : Int := if b < 1 then 0 else a / b
def dRest (a b : Int) : Int := if b < 1 then 0 else a % b
def dBy (b : Int) : Int := if b < 1 then 1 else b

theorem rest_neg (a b : Int) (hb : 1 ≤ b) (h : a.tmod b < 0) : a % b = a.tmod b + b := by
  have e := Int.mul_tdiv_add_tmod a b
  have bd := tmod_bd a b hb
  have := (Int.ediv_emod_unique (a := a) (b := b) (r := a.tmod b + b) (q := a.tdiv b - 1) (by omega)).2 ⟨by rw [Int.mul_sub]; omega, by omega, by omega⟩
  exact this.2
theorem rest_pos (a b : Int) (hb : 1 ≤ b) (h : ¬ a.tmod b < 0) : a % b = a.tmod b := by
  have e := Int.mul_tdiv_add_tmod a b
  have bd := tmod_bd a b hb
  have := (Int.ediv_emod_unique (a := a) (b := b) (r := a.tmod b) (q := a.tdiv b) (by omega)).2 ⟨by omega, by omega, by omega⟩
  exact this.2

set_option maxHeartbeats 1000000 in
theorem implDivide_any (a b : Int) (a0 : -9223372036854775808 ≤ a) (a1 : a ≤ 9223372036854775807) (b1 : b ≤ 9223372036854775807) (w : World) :
    Calls Try.prog 43 #[.int .i64 a, .int .i64 b] w fun e w' => e = .returned (.agg #[.int .i64 (dDown a b), .int .i64 (dRest a b), .int .i64 (dBy b)]) ∧ Below w.heap.size w w' := by
  by_cases hb : b < 1
  · have e1 : dDown a b = 0 := by unfold dDown; rw [if_pos hb]
    have e2 : dRest a b = 0 := by unfold dRest; rw [if_pos hb]
    have e3 : dBy b = 1 := by unfold dBy; rw [if_pos hb]
    rw [e1, e2, e3]
    clear e1 e2 e3
    go_enter Try.func43, Try.ntmps43
    go_wp2
    go_region
    all_goals go_wp2
    refine bodyPost_ret (v := .agg #[.int .i64 0, .int .i64 0, .int .i64 1]) (by simp [results, Try.results43, go_sem]) rfl ⟨rfl, ?_⟩
    exact (al2_below _ _ _).drew
  · have hb1 : 1 ≤ b := by omega
    have hb2 : (b == 0) = false := beq_eq_false_iff_ne.2 (by omega)
    have bd := tmod_bd a b hb1
    obtain ⟨bd1, bd2⟩ := bd
    by_cases hr : a.tmod b < 0
    · have e1 : dDown a b = a.tdiv b - 1 := by unfold dDown; rw [if_neg hb, floor_neg a b hb1 hr]
      have e2 : dRest a b = a.tmod b + b := by unfold dRest; rw [if_neg hb, rest_neg a b hb1 hr]
      have e3 : dBy b = b := by unfold dBy; rw [if_neg hb]
      have hf := floor_fit hb1 a0 a1
      rw [floor_neg a b hb1 hr] at hf
      obtain ⟨f1, f2⟩ := hf
      rw [e1, e2, e3]
      clear e1 e2 e3
      go_enter Try.func43, Try.ntmps43
      go_wp2
      go_region
      all_goals go_wp2
      refine bodyPost_ret (v := .agg #[.int .i64 (a.tdiv b - 1), .int .i64 (a.tmod b + b), .int .i64 b]) (by simp [results, Try.results43, go_sem]) rfl ⟨rfl, ?_⟩
      exact (al2_below _ _ _).drew
    · have e1 : dDown a b = a.tdiv b := by unfold dDown; rw [if_neg hb, floor_pos a b hb1 hr]
      have e2 : dRest a b = a.tmod b := by unfold dRest; rw [if_neg hb, rest_pos a b hb1 hr]
      have e3 : dBy b = b := by unfold dBy; rw [if_neg hb]
      rw [e1, e2, e3]
      clear e1 e2 e3
      go_enter Try.func43, Try.ntmps43
      go_wp2
      go_region
      all_goals go_wp2
      refine bodyPost_ret (v := .agg #[.int .i64 (a.tdiv b), .int .i64 (a.tmod b), .int .i64 b]) (by simp [results, Try.results43, go_sem]) rfl ⟨rfl, ?_⟩
      exact (al2_below _ _ _).drew

end Go.Proofs.Ytleffglliciioaa

/-
  The walks of the program's chapter 3: divisions by a generic type, roots bit by bit.
-/
namespace Go.Proofs.Ytleffglliciioaa
open Go.RowKit

theorem implFloorDiv_any (a b : Int) (a0 : -9223372036854775808 ≤ a) (a1 : a ≤ 9223372036854775807) (b1 : b ≤ 9223372036854775807) (w : World) :
    Calls Try.prog 41 #[.int .i64 a, .int .i64 b] w fun e w' => e = .returned (.int .i64 (fdivI a b)) ∧ Below w.heap.size w w' := by
  have HD := hide (implDivide_any a b a0 a1 b1)
  have H : Hid (dDown a b = fdivI a b) := rfl
  generalize dDown a b = q at HD H
  generalize dRest a b = r at HD
  generalize dBy b = s at HD
  have hfd : ∀ w : World, (Instr.field 65 (.agg #[.int .i64 q, .int .i64 r, .int .i64 s]) 0).run Try.prog w = .ok (.int .i64 q) w := fun _ => by kernel_rfl
  go_enter Try.func41, Try.ntmps41
  go_wp2_with (go_at_call 43; go_must (refine (unhide HD _).mono ?_); rintro e w1 ⟨rfl, hb⟩)
  go_ret
  exact ⟨ret_i64 (unhide H), hb⟩

end Go.Proofs.Ytleffglliciioaa

/-
  FnQuotients: drawn quotients and roots.
-/
namespace Go.Proofs.Ytleffglliciioaa
open Go.RowKit

/-- A place of the drawn ones. -/
theorem place_at {w : World} {base : Nat} {p : List Nat} {gp cap : Nat} (h : w.ownsRow base 3 1 (.slice (some ⟨gp, 0, none⟩) p.length cap) p.length (p.map Nv)) (hp : ∀ x ∈ p, x < 10000) (i : Nat) (hi : i < p.length) :
    ∃ x : Int, (0 ≤ x ∧ x < 10000) ∧ w.cell? ⟨gp, i, none⟩ = some (.int .i64 x) := by
  have hm := List.getElem_mem hi
  have := hp _ hm
  refine ⟨((p[i] : Nat) : Int), ⟨by omega, by omega⟩, ?_⟩
  rw [h.cellAt i (by omega), List.getElem?_map, List.getElem?_eq_getElem hi]
  rfl

end Go.Proofs.Ytleffglliciioaa
