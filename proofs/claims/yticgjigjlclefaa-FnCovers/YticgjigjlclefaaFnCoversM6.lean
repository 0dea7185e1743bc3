/-
  DrawBx · JoinN · GrowS · BoxOfS · BoxRow · JoinI · BoxOfI · SquaresS · DrawPt · PtCur · DrawPts · PointsP · DrawP · Quot · KeepA: texts of one claim, in one.
-/
import Derived.Test.YticgjigjlclefaaFnCoversM5
import Derived.Test.YticgjigjlclefaaFnCoversM1
import Derived.Deep.RegionHeld3
import Derived.Test.YticgjigjlclefaaFnCoversM3
import Derived.Test.YticgjigjlclefaaFnCoversM2
import Derived.Deep.DeepCutAuto
import Derived.Deep.DeepFit
import Derived.Lib.MinMax

/-
  The walk of DrawBoxes: two drawn boxes and a drawn point.
-/
namespace Go.Proofs.Yticgjigjlclefaa
open Go.RowKit

theorem DS.drew {w u : World} {g B : Nat} {a : Option Addr} {len cap : Nat} (h : DS w u g B a len cap) : DS w u.drew g B a len cap := h.calls (Below.refl _ _).drew
theorem DS.below' {w u W : World} {g B : Nat} {a : Option Addr} {len cap : Nat} (h : DS w u g B a len cap) (hb : Below B W w) (hw : B ≤ w.heap.size) : Below B W u := hb.grown h.gb hw (fun k hk => by cases hk; exact h.lg)

set_option maxHeartbeats 2000000 in
set_option maxRecDepth 100000 in
theorem drawBoxes_any (a : Option Addr) (len cap : Nat) (w : World) (hl : len ≤ 1048576) (hin : InB w.heap.size w a len) :
    Calls Try.prog 10 #[.slice a len cap] w fun e w' => ∃ x0 y0 x1 y1 x2 y2 x3 y3 x y : Int, ((0 ≤ x0 ∧ x0 ≤ 99) ∧ (0 ≤ y0 ∧ y0 ≤ 99) ∧ (0 ≤ x1 ∧ x1 ≤ 99) ∧ (0 ≤ y1 ∧ y1 ≤ 99)) ∧ ((0 ≤ x2 ∧ x2 ≤ 99) ∧ (0 ≤ y2 ∧ y2 ≤ 99) ∧ (0 ≤ x3 ∧ x3 ≤ 99) ∧ (0 ≤ y3 ∧ y3 ≤ 99)) ∧ ((0 ≤ x ∧ x ≤ 99) ∧ (0 ≤ y ∧ y ≤ 99)) ∧
      e = .returned (.tuple #[.agg #[.int .i64 x0, .int .i64 y0, .int .i64 x1, .int .i64 y1], .agg #[.int .i64 x2, .int .i64 y2, .int .i64 x3, .int .i64 y3], .agg #[.int .i64 x, .int .i64 y]]) ∧ Below w.heap.size w w' := by
  have HI := hide hin
  clear hin
  go_enter Try.func10, Try.ntmps10
  go_wp2_with fail
  obtain ⟨W, hW⟩ : ∃ W, W = ((w.alloc (.cells #[.int .i64 0, .int .i64 0, .int .i64 0, .int .i64 0] 25)).alloc (.cells #[.int .i64 0, .int .i64 0, .int .i64 0, .int .i64 0] 25)).alloc (.cells #[.int .i64 0, .int .i64 0] 27) := ⟨_, rfl⟩
  have H0 := hide (show W.heap[w.heap.size]? = some (.cells #[.int .i64 0, .int .i64 0, .int .i64 0, .int .i64 0] 25 (0, 0)) by rw [hW]; exact al3_0 _ _ _ _)
  have H1 := hide (show W.heap[w.heap.size + 1]? = some (.cells #[.int .i64 0, .int .i64 0, .int .i64 0, .int .i64 0] 25 (0, 0)) by rw [hW]; exact al3_1 _ _ _ _)
  have H2 := hide (show W.heap[w.heap.size + 1 + 1]? = some (.cells #[.int .i64 0, .int .i64 0] 27 (0, 0)) by rw [hW]; exact al3_2 _ _ _ _)
  have HB := hide (show Below w.heap.size w W by rw [hW]; exact al3_below _ _ _ _)
  rw [← hW]
  clear hW
  refine (l01New_any a len cap _ hl ((unhide HI).next (unhide HB))).mono ?_
  rintro e v1 ⟨g, hg, rfl, hc, hb1⟩
  have D1 := hide (DS.start hc (((unhide HI).next (unhide HB)).below hb1) hb1.size hg)
  have B1 := hide hb1
  clear hc hb1
  go_wp2_with fail
  refine (draw_any (unhide D1) hl 9 (by omega) (by omega)).mono ?_
  rintro e v2 ⟨n0, hn0, rfl, d2, g2⟩
  have sE2 := hide d2.size
  have E2 := hide d2
  clear d2 g2 D1
  go_wp2_with fail
  refine (draw_any (unhide E2) hl 9 (by omega) (by omega)).mono ?_
  rintro e v3 ⟨n1, hn1, rfl, d3, g3⟩
  have sE3 := hide d3.size
  have E3 := hide d3
  clear d3 g3 E2
  go_wp2_with fail
  obtain ⟨VA, hV⟩ : ∃ V, V = v3.alloc (.cells #[.int .i64 (n0 : Int), .int .i64 (n1 : Int), .int .i64 0, .int .i64 0] 25) := ⟨_, rfl⟩
  have A := hide (show VA.heap[v3.heap.size]? = some (.cells #[.int .i64 (n0 : Int), .int .i64 (n1 : Int), .int .i64 0, .int .i64 0] 25 (0, 0)) by rw [hV]; exact new_row _ _)
  have FA := hide (show DS v1 VA g W.heap.size a len cap by rw [hV]; exact (unhide E3).alloc _)
  have zA := hide (show v1.heap.size ≤ v3.heap.size from unhide sE3)
  rw [← hV]
  clear hV E3
  have k0 : ∀ u, VA.drew.grownBy u (some g) → u.cell? ⟨v3.heap.size, 0, none⟩ = some (.int .i64 (n0 : Int)) := fun u h => (row4 ((unhide FA).drew.heap h (unhide zA) (row_drew (unhide A)))).1
  have kD : VA.drew.cell? ⟨v3.heap.size, 0, none⟩ = some (.int .i64 (n0 : Int)) := (row4 (row_drew (unhide A))).1
  have kP : ∀ u v, VA.drew.grownBy u (some g) → (u.setCell ⟨v3.heap.size, 2, none⟩ v).cell? ⟨v3.heap.size, 0, none⟩ = some (.int .i64 (n0 : Int)) := fun u v h => (row4 (set4_2 ((unhide FA).drew.heap h (unhide zA) (row_drew (unhide A))))).1
  replace k0 := hide k0
  replace kD := hide kD
  replace kP := hide kP
  go_region_held3 (fun u => u.cell? ⟨v3.heap.size, 0, none⟩ = some (.int .i64 (n0 : Int))) (first | with_reducible exact unhide kD | (with_reducible refine unhide k0 _ ?_; with_reducible assumption) | (with_reducible refine unhide kP _ _ ?_; with_reducible assumption)) (first | (go_at_call 34; refine (draw_any (unhide FA).drew hl 9 (by omega) (by omega)).mono ?_; rintro e v4 ⟨n2, hn2, rfl, d4, g4⟩; have A5 := (unhide FA).drew.heap g4 (unhide zA) (row_drew (unhide A)); obtain ⟨a0, a1, a2, a3⟩ := row4 A5; obtain ⟨f0, f1, f2, f3⟩ := free4 A5; have vv : IntKind.i64.wrap ((n0 : Int) + (n2 : Int)) = (n0 : Int) + (n2 : Int) := IntWalk.i64_in _ (by omega)))
  rename_i hH
  clear hH k0 kD kP a0 a1 a2 a3 f0 f1 f2 f3 vv
  obtain ⟨V4, hV⟩ : ∃ V, V = v4.setCell ⟨v3.heap.size, 2, none⟩ (.int .i64 ((n0 : Int) + (n2 : Int))) := ⟨_, rfl⟩
  replace A := hide (show V4.heap[v3.heap.size]? = some (.cells #[.int .i64 (n0 : Int), .int .i64 (n1 : Int), .int .i64 ((n0 : Int) + (n2 : Int)), .int .i64 0] 25 (0, 0)) by rw [hV]; exact set4_2 A5)
  have E4 := hide (show DS v1 V4 g W.heap.size a len cap by rw [hV]; exact d4.put 2 _ (unhide zA))
  rw [← hV]
  clear hV A5 d4 g4 FA
  go_wp2_with fail
  have k0 : ∀ u, V4.drew.grownBy u (some g) → u.cell? ⟨v3.heap.size, 1, none⟩ = some (.int .i64 (n1 : Int)) := fun u h => (row4 ((unhide E4).drew.heap h (unhide zA) (row_drew (unhide A)))).2.1
  have kD : V4.drew.cell? ⟨v3.heap.size, 1, none⟩ = some (.int .i64 (n1 : Int)) := (row4 (row_drew (unhide A))).2.1
  have kP : ∀ u v, V4.drew.grownBy u (some g) → (u.setCell ⟨v3.heap.size, 3, none⟩ v).cell? ⟨v3.heap.size, 1, none⟩ = some (.int .i64 (n1 : Int)) := fun u v h => (row4 (set4_3 ((unhide E4).drew.heap h (unhide zA) (row_drew (unhide A))))).2.1
  replace k0 := hide k0
  replace kD := hide kD
  replace kP := hide kP
  go_region_held3 (fun u => u.cell? ⟨v3.heap.size, 1, none⟩ = some (.int .i64 (n1 : Int))) (first | with_reducible exact unhide kD | (with_reducible refine unhide k0 _ ?_; with_reducible assumption) | (with_reducible refine unhide kP _ _ ?_; with_reducible assumption)) (first | (go_at_call 34; refine (draw_any (unhide E4).drew hl 9 (by omega) (by omega)).mono ?_; rintro e v5 ⟨n3, hn3, rfl, d5, g5⟩; have A5 := (unhide E4).drew.heap g5 (unhide zA) (row_drew (unhide A)); obtain ⟨a0, a1, a2, a3⟩ := row4 A5; obtain ⟨f0, f1, f2, f3⟩ := free4 A5; have vv : IntKind.i64.wrap ((n1 : Int) + (n3 : Int)) = (n1 : Int) + (n3 : Int) := IntWalk.i64_in _ (by omega)))
  rename_i hH
  clear hH k0 kD kP a0 a1 a2 a3 f0 f1 f2 f3 vv
  obtain ⟨V5, hV⟩ : ∃ V, V = v5.setCell ⟨v3.heap.size, 3, none⟩ (.int .i64 ((n1 : Int) + (n3 : Int))) := ⟨_, rfl⟩
  replace A := hide (show V5.heap[v3.heap.size]? = some (.cells #[.int .i64 (n0 : Int), .int .i64 (n1 : Int), .int .i64 ((n0 : Int) + (n2 : Int)), .int .i64 ((n1 : Int) + (n3 : Int))] 25 (0, 0)) by rw [hV]; exact set4_3 A5)
  have E5 := hide (show DS v1 V5 g W.heap.size a len cap by rw [hV]; exact d5.put 3 _ (unhide zA))
  rw [← hV]
  clear hV A5 d5 g5 E4
  go_wp2_with fail
  refine (draw_any (unhide E5) hl 9 (by omega) (by omega)).mono ?_
  rintro e v6 ⟨n4, hn4, rfl, d6, g6⟩
  replace A := hide ((unhide E5).heap g6 (unhide zA) (unhide A))
  have sE6 := hide d6.size
  have E6 := hide d6
  clear d6 g6 E5
  go_wp2_with fail
  refine (draw_any (unhide E6) hl 9 (by omega) (by omega)).mono ?_
  rintro e v7 ⟨n5, hn5, rfl, d7, g7⟩
  replace A := hide ((unhide E6).heap g7 (unhide zA) (unhide A))
  have sE7 := hide d7.size
  have E7 := hide d7
  clear d7 g7 E6
  go_wp2_with fail
  obtain ⟨VQ, hV⟩ : ∃ V, V = v7.alloc (.cells #[.int .i64 (n4 : Int), .int .i64 (n5 : Int), .int .i64 0, .int .i64 0] 25) := ⟨_, rfl⟩
  have ne := hide (show v3.heap.size ≠ v7.heap.size from fun e => by have := heap_lt (unhide A); omega)
  replace A := hide (show VQ.heap[v3.heap.size]? = some (.cells #[.int .i64 (n0 : Int), .int .i64 (n1 : Int), .int .i64 ((n0 : Int) + (n2 : Int)), .int .i64 ((n1 : Int) + (n3 : Int))] 25 (0, 0)) by rw [hV]; exact old_row _ (unhide A))
  have Q := hide (show VQ.heap[v7.heap.size]? = some (.cells #[.int .i64 (n4 : Int), .int .i64 (n5 : Int), .int .i64 0, .int .i64 0] 25 (0, 0)) by rw [hV]; exact new_row _ _)
  have FQ := hide (show DS v1 VQ g W.heap.size a len cap by rw [hV]; exact (unhide E7).alloc _)
  have zQ := hide (show v1.heap.size ≤ v7.heap.size from unhide sE7)
  rw [← hV]
  clear hV E7
  have k0 : ∀ u, VQ.drew.grownBy u (some g) → u.cell? ⟨v7.heap.size, 0, none⟩ = some (.int .i64 (n4 : Int)) := fun u h => (row4 ((unhide FQ).drew.heap h (unhide zQ) (row_drew (unhide Q)))).1
  have kD : VQ.drew.cell? ⟨v7.heap.size, 0, none⟩ = some (.int .i64 (n4 : Int)) := (row4 (row_drew (unhide Q))).1
  have kP : ∀ u v, VQ.drew.grownBy u (some g) → (u.setCell ⟨v7.heap.size, 2, none⟩ v).cell? ⟨v7.heap.size, 0, none⟩ = some (.int .i64 (n4 : Int)) := fun u v h => (row4 (set4_2 ((unhide FQ).drew.heap h (unhide zQ) (row_drew (unhide Q))))).1
  replace k0 := hide k0
  replace kD := hide kD
  replace kP := hide kP
  go_region_held3 (fun u => u.cell? ⟨v7.heap.size, 0, none⟩ = some (.int .i64 (n4 : Int))) (first | with_reducible exact unhide kD | (with_reducible refine unhide k0 _ ?_; with_reducible assumption) | (with_reducible refine unhide kP _ _ ?_; with_reducible assumption)) (first | (go_at_call 34; refine (draw_any (unhide FQ).drew hl 9 (by omega) (by omega)).mono ?_; rintro e v8 ⟨n6, hn6, rfl, d8, g8⟩; have A5 := (unhide FQ).drew.heap g8 (unhide zQ) (row_drew (unhide Q)); obtain ⟨a0, a1, a2, a3⟩ := row4 A5; obtain ⟨f0, f1, f2, f3⟩ := free4 A5; have vv : IntKind.i64.wrap ((n4 : Int) + (n6 : Int)) = (n4 : Int) + (n6 : Int) := IntWalk.i64_in _ (by omega)))
  rename_i hH
  clear hH k0 kD kP a0 a1 a2 a3 f0 f1 f2 f3 vv
  obtain ⟨V8, hV⟩ : ∃ V, V = v8.setCell ⟨v7.heap.size, 2, none⟩ (.int .i64 ((n4 : Int) + (n6 : Int))) := ⟨_, rfl⟩
  replace A := hide (show V8.heap[v3.heap.size]? = some (.cells #[.int .i64 (n0 : Int), .int .i64 (n1 : Int), .int .i64 ((n0 : Int) + (n2 : Int)), .int .i64 ((n1 : Int) + (n3 : Int))] 25 (0, 0)) by rw [hV]; exact setc_other (unhide ne) ((unhide FQ).drew.heap g8 (unhide zA) (row_drew (unhide A))))
  replace Q := hide (show V8.heap[v7.heap.size]? = some (.cells #[.int .i64 (n4 : Int), .int .i64 (n5 : Int), .int .i64 ((n4 : Int) + (n6 : Int)), .int .i64 0] 25 (0, 0)) by rw [hV]; exact set4_2 A5)
  have E8 := hide (show DS v1 V8 g W.heap.size a len cap by rw [hV]; exact d8.put 2 _ (unhide zQ))
  rw [← hV]
  clear hV A5 d8 g8 FQ
  go_wp2_with fail
  have k0 : ∀ u, V8.drew.grownBy u (some g) → u.cell? ⟨v7.heap.size, 1, none⟩ = some (.int .i64 (n5 : Int)) := fun u h => (row4 ((unhide E8).drew.heap h (unhide zQ) (row_drew (unhide Q)))).2.1
  have kD : V8.drew.cell? ⟨v7.heap.size, 1, none⟩ = some (.int .i64 (n5 : Int)) := (row4 (row_drew (unhide Q))).2.1
  have kP : ∀ u v, V8.drew.grownBy u (some g) → (u.setCell ⟨v7.heap.size, 3, none⟩ v).cell? ⟨v7.heap.size, 1, none⟩ = some (.int .i64 (n5 : Int)) := fun u v h => (row4 (set4_3 ((unhide E8).drew.heap h (unhide zQ) (row_drew (unhide Q))))).2.1
  replace k0 := hide k0
  replace kD := hide kD
  replace kP := hide kP
  go_region_held3 (fun u => u.cell? ⟨v7.heap.size, 1, none⟩ = some (.int .i64 (n5 : Int))) (first | with_reducible exact unhide kD | (with_reducible refine unhide k0 _ ?_; with_reducible assumption) | (with_reducible refine unhide kP _ _ ?_; with_reducible assumption)) (first | (go_at_call 34; refine (draw_any (unhide E8).drew hl 9 (by omega) (by omega)).mono ?_; rintro e v9 ⟨n7, hn7, rfl, d9, g9⟩; have A5 := (unhide E8).drew.heap g9 (unhide zQ) (row_drew (unhide Q)); obtain ⟨a0, a1, a2, a3⟩ := row4 A5; obtain ⟨f0, f1, f2, f3⟩ := free4 A5; have vv : IntKind.i64.wrap ((n5 : Int) + (n7 : Int)) = (n5 : Int) + (n7 : Int) := IntWalk.i64_in _ (by omega)))
  rename_i hH
  clear hH k0 kD kP a0 a1 a2 a3 f0 f1 f2 f3 vv
  obtain ⟨V9, hV⟩ : ∃ V, V = v9.setCell ⟨v7.heap.size, 3, none⟩ (.int .i64 ((n5 : Int) + (n7 : Int))) := ⟨_, rfl⟩
  replace A := hide (show V9.heap[v3.heap.size]? = some (.cells #[.int .i64 (n0 : Int), .int .i64 (n1 : Int), .int .i64 ((n0 : Int) + (n2 : Int)), .int .i64 ((n1 : Int) + (n3 : Int))] 25 (0, 0)) by rw [hV]; exact setc_other (unhide ne) ((unhide E8).drew.heap g9 (unhide zA) (row_drew (unhide A))))
  replace Q := hide (show V9.heap[v7.heap.size]? = some (.cells #[.int .i64 (n4 : Int), .int .i64 (n5 : Int), .int .i64 ((n4 : Int) + (n6 : Int)), .int .i64 ((n5 : Int) + (n7 : Int))] 25 (0, 0)) by rw [hV]; exact set4_3 A5)
  have E9 := hide (show DS v1 V9 g W.heap.size a len cap by rw [hV]; exact d9.put 3 _ (unhide zQ))
  rw [← hV]
  clear hV A5 d9 g9 E8
  go_wp2_with fail
  have hlo := hide (show w.heap.size + 1 + 1 < v1.heap.size from Nat.lt_of_lt_of_le (heap_lt (unhide H2)) (unhide B1).size)
  have nA : ∀ k, k ≤ w.heap.size + 1 + 1 → v3.heap.size ≠ k := fun k hk e => by have := unhide hlo; have := unhide zA; omega
  have nQ : ∀ k, k ≤ w.heap.size + 1 + 1 → v7.heap.size ≠ k := fun k hk e => by have := unhide hlo; have := unhide zQ; omega
  have k9 : ∀ u : World, u.heap[v3.heap.size]? = some (.cells #[.int .i64 (n0 : Int), .int .i64 (n1 : Int), .int .i64 ((n0 : Int) + (n2 : Int)), .int .i64 ((n1 : Int) + (n3 : Int))] 25 (0, 0)) → u.heap[v7.heap.size]? = some (.cells #[.int .i64 (n4 : Int), .int .i64 (n5 : Int), .int .i64 ((n4 : Int) + (n6 : Int)), .int .i64 ((n5 : Int) + (n7 : Int))] 25 (0, 0)) → (u.cell? ⟨v3.heap.size, 0, none⟩ = some (.int .i64 (n0 : Int)) ∧ u.cell? ⟨v3.heap.size, 1, none⟩ = some (.int .i64 (n1 : Int)) ∧ u.cell? ⟨v3.heap.size, 2, none⟩ = some (.int .i64 ((n0 : Int) + (n2 : Int))) ∧ u.cell? ⟨v3.heap.size, 3, none⟩ = some (.int .i64 ((n1 : Int) + (n3 : Int))) ∧ u.cell? ⟨v7.heap.size, 0, none⟩ = some (.int .i64 (n4 : Int)) ∧ u.cell? ⟨v7.heap.size, 1, none⟩ = some (.int .i64 (n5 : Int)) ∧ u.cell? ⟨v7.heap.size, 2, none⟩ = some (.int .i64 ((n4 : Int) + (n6 : Int))) ∧ u.cell? ⟨v7.heap.size, 3, none⟩ = some (.int .i64 ((n5 : Int) + (n7 : Int)))) := fun u h1 h2 => by
    obtain ⟨a0, a1, a2, a3⟩ := row4 h1
    obtain ⟨b0, b1, b2, b3⟩ := row4 h2
    exact ⟨a0, a1, a2, a3, b0, b1, b2, b3⟩
  have kD : (V9.drew.cell? ⟨v3.heap.size, 0, none⟩ = some (.int .i64 (n0 : Int)) ∧ V9.drew.cell? ⟨v3.heap.size, 1, none⟩ = some (.int .i64 (n1 : Int)) ∧ V9.drew.cell? ⟨v3.heap.size, 2, none⟩ = some (.int .i64 ((n0 : Int) + (n2 : Int))) ∧ V9.drew.cell? ⟨v3.heap.size, 3, none⟩ = some (.int .i64 ((n1 : Int) + (n3 : Int))) ∧ V9.drew.cell? ⟨v7.heap.size, 0, none⟩ = some (.int .i64 (n4 : Int)) ∧ V9.drew.cell? ⟨v7.heap.size, 1, none⟩ = some (.int .i64 (n5 : Int)) ∧ V9.drew.cell? ⟨v7.heap.size, 2, none⟩ = some (.int .i64 ((n4 : Int) + (n6 : Int))) ∧ V9.drew.cell? ⟨v7.heap.size, 3, none⟩ = some (.int .i64 ((n5 : Int) + (n7 : Int)))) := k9 _ (row_drew (unhide A)) (row_drew (unhide Q))
  have k0 : ∀ u : World, V9.drew.grownBy u (some g) → (u.cell? ⟨v3.heap.size, 0, none⟩ = some (.int .i64 (n0 : Int)) ∧ u.cell? ⟨v3.heap.size, 1, none⟩ = some (.int .i64 (n1 : Int)) ∧ u.cell? ⟨v3.heap.size, 2, none⟩ = some (.int .i64 ((n0 : Int) + (n2 : Int))) ∧ u.cell? ⟨v3.heap.size, 3, none⟩ = some (.int .i64 ((n1 : Int) + (n3 : Int))) ∧ u.cell? ⟨v7.heap.size, 0, none⟩ = some (.int .i64 (n4 : Int)) ∧ u.cell? ⟨v7.heap.size, 1, none⟩ = some (.int .i64 (n5 : Int)) ∧ u.cell? ⟨v7.heap.size, 2, none⟩ = some (.int .i64 ((n4 : Int) + (n6 : Int))) ∧ u.cell? ⟨v7.heap.size, 3, none⟩ = some (.int .i64 ((n5 : Int) + (n7 : Int)))) := fun u h => k9 _ ((unhide E9).drew.heap h (unhide zA) (row_drew (unhide A))) ((unhide E9).drew.heap h (unhide zQ) (row_drew (unhide Q)))
  have kP0 : ∀ (u : World) (x y z t : Value), V9.drew.grownBy u (some g) → (((((u.setCell ⟨w.heap.size, 0, none⟩ x).setCell ⟨w.heap.size, 1, none⟩ y).setCell ⟨w.heap.size, 2, none⟩ z).setCell ⟨w.heap.size, 3, none⟩ t).cell? ⟨v3.heap.size, 0, none⟩ = some (.int .i64 (n0 : Int)) ∧ ((((u.setCell ⟨w.heap.size, 0, none⟩ x).setCell ⟨w.heap.size, 1, none⟩ y).setCell ⟨w.heap.size, 2, none⟩ z).setCell ⟨w.heap.size, 3, none⟩ t).cell? ⟨v3.heap.size, 1, none⟩ = some (.int .i64 (n1 : Int)) ∧ ((((u.setCell ⟨w.heap.size, 0, none⟩ x).setCell ⟨w.heap.size, 1, none⟩ y).setCell ⟨w.heap.size, 2, none⟩ z).setCell ⟨w.heap.size, 3, none⟩ t).cell? ⟨v3.heap.size, 2, none⟩ = some (.int .i64 ((n0 : Int) + (n2 : Int))) ∧ ((((u.setCell ⟨w.heap.size, 0, none⟩ x).setCell ⟨w.heap.size, 1, none⟩ y).setCell ⟨w.heap.size, 2, none⟩ z).setCell ⟨w.heap.size, 3, none⟩ t).cell? ⟨v3.heap.size, 3, none⟩ = some (.int .i64 ((n1 : Int) + (n3 : Int))) ∧ ((((u.setCell ⟨w.heap.size, 0, none⟩ x).setCell ⟨w.heap.size, 1, none⟩ y).setCell ⟨w.heap.size, 2, none⟩ z).setCell ⟨w.heap.size, 3, none⟩ t).cell? ⟨v7.heap.size, 0, none⟩ = some (.int .i64 (n4 : Int)) ∧ ((((u.setCell ⟨w.heap.size, 0, none⟩ x).setCell ⟨w.heap.size, 1, none⟩ y).setCell ⟨w.heap.size, 2, none⟩ z).setCell ⟨w.heap.size, 3, none⟩ t).cell? ⟨v7.heap.size, 1, none⟩ = some (.int .i64 (n5 : Int)) ∧ ((((u.setCell ⟨w.heap.size, 0, none⟩ x).setCell ⟨w.heap.size, 1, none⟩ y).setCell ⟨w.heap.size, 2, none⟩ z).setCell ⟨w.heap.size, 3, none⟩ t).cell? ⟨v7.heap.size, 2, none⟩ = some (.int .i64 ((n4 : Int) + (n6 : Int))) ∧ ((((u.setCell ⟨w.heap.size, 0, none⟩ x).setCell ⟨w.heap.size, 1, none⟩ y).setCell ⟨w.heap.size, 2, none⟩ z).setCell ⟨w.heap.size, 3, none⟩ t).cell? ⟨v7.heap.size, 3, none⟩ = some (.int .i64 ((n5 : Int) + (n7 : Int)))) := fun u x y z t h => k9 _ (put4_other (nA _ (by omega)) ((unhide E9).drew.heap h (unhide zA) (row_drew (unhide A)))) (put4_other (nQ _ (by omega)) ((unhide E9).drew.heap h (unhide zQ) (row_drew (unhide Q))))
  have kP1 : ∀ (u : World) (x y z t x' y' z' t' : Value), V9.drew.grownBy u (some g) → (((((((((u.setCell ⟨w.heap.size, 0, none⟩ x).setCell ⟨w.heap.size, 1, none⟩ y).setCell ⟨w.heap.size, 2, none⟩ z).setCell ⟨w.heap.size, 3, none⟩ t).setCell ⟨w.heap.size + 1, 0, none⟩ x').setCell ⟨w.heap.size + 1, 1, none⟩ y').setCell ⟨w.heap.size + 1, 2, none⟩ z').setCell ⟨w.heap.size + 1, 3, none⟩ t').cell? ⟨v3.heap.size, 0, none⟩ = some (.int .i64 (n0 : Int)) ∧ ((((((((u.setCell ⟨w.heap.size, 0, none⟩ x).setCell ⟨w.heap.size, 1, none⟩ y).setCell ⟨w.heap.size, 2, none⟩ z).setCell ⟨w.heap.size, 3, none⟩ t).setCell ⟨w.heap.size + 1, 0, none⟩ x').setCell ⟨w.heap.size + 1, 1, none⟩ y').setCell ⟨w.heap.size + 1, 2, none⟩ z').setCell ⟨w.heap.size + 1, 3, none⟩ t').cell? ⟨v3.heap.size, 1, none⟩ = some (.int .i64 (n1 : Int)) ∧ ((((((((u.setCell ⟨w.heap.size, 0, none⟩ x).setCell ⟨w.heap.size, 1, none⟩ y).setCell ⟨w.heap.size, 2, none⟩ z).setCell ⟨w.heap.size, 3, none⟩ t).setCell ⟨w.heap.size + 1, 0, none⟩ x').setCell ⟨w.heap.size + 1, 1, none⟩ y').setCell ⟨w.heap.size + 1, 2, none⟩ z').setCell ⟨w.heap.size + 1, 3, none⟩ t').cell? ⟨v3.heap.size, 2, none⟩ = some (.int .i64 ((n0 : Int) + (n2 : Int))) ∧ ((((((((u.setCell ⟨w.heap.size, 0, none⟩ x).setCell ⟨w.heap.size, 1, none⟩ y).setCell ⟨w.heap.size, 2, none⟩ z).setCell ⟨w.heap.size, 3, none⟩ t).setCell ⟨w.heap.size + 1, 0, none⟩ x').setCell ⟨w.heap.size + 1, 1, none⟩ y').setCell ⟨w.heap.size + 1, 2, none⟩ z').setCell ⟨w.heap.size + 1, 3, none⟩ t').cell? ⟨v3.heap.size, 3, none⟩ = some (.int .i64 ((n1 : Int) + (n3 : Int))) ∧ ((((((((u.setCell ⟨w.heap.size, 0, none⟩ x).setCell ⟨w.heap.size, 1, none⟩ y).setCell ⟨w.heap.size, 2, none⟩ z).setCell ⟨w.heap.size, 3, none⟩ t).setCell ⟨w.heap.size + 1, 0, none⟩ x').setCell ⟨w.heap.size + 1, 1, none⟩ y').setCell ⟨w.heap.size + 1, 2, none⟩ z').setCell ⟨w.heap.size + 1, 3, none⟩ t').cell? ⟨v7.heap.size, 0, none⟩ = some (.int .i64 (n4 : Int)) ∧ ((((((((u.setCell ⟨w.heap.size, 0, none⟩ x).setCell ⟨w.heap.size, 1, none⟩ y).setCell ⟨w.heap.size, 2, none⟩ z).setCell ⟨w.heap.size, 3, none⟩ t).setCell ⟨w.heap.size + 1, 0, none⟩ x').setCell ⟨w.heap.size + 1, 1, none⟩ y').setCell ⟨w.heap.size + 1, 2, none⟩ z').setCell ⟨w.heap.size + 1, 3, none⟩ t').cell? ⟨v7.heap.size, 1, none⟩ = some (.int .i64 (n5 : Int)) ∧ ((((((((u.setCell ⟨w.heap.size, 0, none⟩ x).setCell ⟨w.heap.size, 1, none⟩ y).setCell ⟨w.heap.size, 2, none⟩ z).setCell ⟨w.heap.size, 3, none⟩ t).setCell ⟨w.heap.size + 1, 0, none⟩ x').setCell ⟨w.heap.size + 1, 1, none⟩ y').setCell ⟨w.heap.size + 1, 2, none⟩ z').setCell ⟨w.heap.size + 1, 3, none⟩ t').cell? ⟨v7.heap.size, 2, none⟩ = some (.int .i64 ((n4 : Int) + (n6 : Int))) ∧ ((((((((u.setCell ⟨w.heap.size, 0, none⟩ x).setCell ⟨w.heap.size, 1, none⟩ y).setCell ⟨w.heap.size, 2, none⟩ z).setCell ⟨w.heap.size, 3, none⟩ t).setCell ⟨w.heap.size + 1, 0, none⟩ x').setCell ⟨w.heap.size + 1, 1, none⟩ y').setCell ⟨w.heap.size + 1, 2, none⟩ z').setCell ⟨w.heap.size + 1, 3, none⟩ t').cell? ⟨v7.heap.size, 3, none⟩ = some (.int .i64 ((n5 : Int) + (n7 : Int)))) := fun u x y z t x' y' z' t' h => k9 _ (put4_other (nA _ (by omega)) (put4_other (nA _ (by omega)) ((unhide E9).drew.heap h (unhide zA) (row_drew (unhide A))))) (put4_other (nQ _ (by omega)) (put4_other (nQ _ (by omega)) ((unhide E9).drew.heap h (unhide zQ) (row_drew (unhide Q)))))
  have kP2 : ∀ (u : World) (x y z t x' y' z' t' x2 y2 : Value), V9.drew.grownBy u (some g) → (((((((((((u.setCell ⟨w.heap.size, 0, none⟩ x).setCell ⟨w.heap.size, 1, none⟩ y).setCell ⟨w.heap.size, 2, none⟩ z).setCell ⟨w.heap.size, 3, none⟩ t).setCell ⟨w.heap.size + 1, 0, none⟩ x').setCell ⟨w.heap.size + 1, 1, none⟩ y').setCell ⟨w.heap.size + 1, 2, none⟩ z').setCell ⟨w.heap.size + 1, 3, none⟩ t').setCell ⟨w.heap.size + 1 + 1, 0, none⟩ x2).setCell ⟨w.heap.size + 1 + 1, 1, none⟩ y2).cell? ⟨v3.heap.size, 0, none⟩ = some (.int .i64 (n0 : Int)) ∧ ((((((((((u.setCell ⟨w.heap.size, 0, none⟩ x).setCell ⟨w.heap.size, 1, none⟩ y).setCell ⟨w.heap.size, 2, none⟩ z).setCell ⟨w.heap.size, 3, none⟩ t).setCell ⟨w.heap.size + 1, 0, none⟩ x').setCell ⟨w.heap.size + 1, 1, none⟩ y').setCell ⟨w.heap.size + 1, 2, none⟩ z').setCell ⟨w.heap.size + 1, 3, none⟩ t').setCell ⟨w.heap.size + 1 + 1, 0, none⟩ x2).setCell ⟨w.heap.size + 1 + 1, 1, none⟩ y2).cell? ⟨v3.heap.size, 1, none⟩ = some (.int .i64 (n1 : Int)) ∧ ((((((((((u.setCell ⟨w.heap.size, 0, none⟩ x).setCell ⟨w.heap.size, 1, none⟩ y).setCell ⟨w.heap.size, 2, none⟩ z).setCell ⟨w.heap.size, 3, none⟩ t).setCell ⟨w.heap.size + 1, 0, none⟩ x').setCell ⟨w.heap.size + 1, 1, none⟩ y').setCell ⟨w.heap.size + 1, 2, none⟩ z').setCell ⟨w.heap.size + 1, 3, none⟩ t').setCell ⟨w.heap.size + 1 + 1, 0, none⟩ x2).setCell ⟨w.heap.size + 1 + 1, 1, none⟩ y2).cell? ⟨v3.heap.size, 2, none⟩ = some (.int .i64 ((n0 : Int) + (n2 : Int))) ∧ ((((((((((u.setCell ⟨w.heap.size, 0, none⟩ x).setCell ⟨w.heap.size, 1, none⟩ y).setCell ⟨w.heap.size, 2, none⟩ z).setCell ⟨w.heap.size, 3, none⟩ t).setCell ⟨w.heap.size + 1, 0, none⟩ x').setCell ⟨w.heap.size + 1, 1, none⟩ y').setCell ⟨w.heap.size + 1, 2, none⟩ z').setCell ⟨w.heap.size + 1, 3, none⟩ t').setCell ⟨w.heap.size + 1 + 1, 0, none⟩ x2).setCell ⟨w.heap.size + 1 + 1, 1, none⟩ y2).cell? ⟨v3.heap.size, 3, none⟩ = some (.int .i64 ((n1 : Int) + (n3 : Int))) ∧ ((((((((((u.setCell ⟨w.heap.size, 0, none⟩ x).setCell ⟨w.heap.size, 1, none⟩ y).setCell ⟨w.heap.size, 2, none⟩ z).setCell ⟨w.heap.size, 3, none⟩ t).setCell ⟨w.heap.size + 1, 0, none⟩ x').setCell ⟨w.heap.size + 1, 1, none⟩ y').setCell ⟨w.heap.size + 1, 2, none⟩ z').setCell ⟨w.heap.size + 1, 3, none⟩ t').setCell ⟨w.heap.size + 1 + 1, 0, none⟩ x2).setCell ⟨w.heap.size + 1 + 1, 1, none⟩ y2).cell? ⟨v7.heap.size, 0, none⟩ = some (.int .i64 (n4 : Int)) ∧ ((((((((((u.setCell ⟨w.heap.size, 0, none⟩ x).setCell ⟨w.heap.size, 1, none⟩ y).setCell ⟨w.heap.size, 2, none⟩ z).setCell ⟨w.heap.size, 3, none⟩ t).setCell ⟨w.heap.size + 1, 0, none⟩ x').setCell ⟨w.heap.size + 1, 1, none⟩ y').setCell ⟨w.heap.size + 1, 2, none⟩ z').setCell ⟨w.heap.size + 1, 3, none⟩ t').setCell ⟨w.heap.size + 1 + 1, 0, none⟩ x2).setCell ⟨w.heap.size + 1 + 1, 1, none⟩ y2).cell? ⟨v7.heap.size, 1, none⟩ = some (.int .i64 (n5 : Int)) ∧ ((((((((((u.setCell ⟨w.heap.size, 0, none⟩ x).setCell ⟨w.heap.size, 1, none⟩ y).setCell ⟨w.heap.size, 2, none⟩ z).setCell ⟨w.heap.size, 3, none⟩ t).setCell ⟨w.heap.size + 1, 0, none⟩ x').setCell ⟨w.heap.size + 1, 1, none⟩ y').setCell ⟨w.heap.size + 1, 2, none⟩ z').setCell ⟨w.heap.size + 1, 3, none⟩ t').setCell ⟨w.heap.size + 1 + 1, 0, none⟩ x2).setCell ⟨w.heap.size + 1 + 1, 1, none⟩ y2).cell? ⟨v7.heap.size, 2, none⟩ = some (.int .i64 ((n4 : Int) + (n6 : Int))) ∧ ((((((((((u.setCell ⟨w.heap.size, 0, none⟩ x).setCell ⟨w.heap.size, 1, none⟩ y).setCell ⟨w.heap.size, 2, none⟩ z).setCell ⟨w.heap.size, 3, none⟩ t).setCell ⟨w.heap.size + 1, 0, none⟩ x').setCell ⟨w.heap.size + 1, 1, none⟩ y').setCell ⟨w.heap.size + 1, 2, none⟩ z').setCell ⟨w.heap.size + 1, 3, none⟩ t').setCell ⟨w.heap.size + 1 + 1, 0, none⟩ x2).setCell ⟨w.heap.size + 1 + 1, 1, none⟩ y2).cell? ⟨v7.heap.size, 3, none⟩ = some (.int .i64 ((n5 : Int) + (n7 : Int)))) := fun u x y z t x' y' z' t' x2 y2 h => k9 _ (put2_other (nA _ (by omega)) (put4_other (nA _ (by omega)) (put4_other (nA _ (by omega)) ((unhide E9).drew.heap h (unhide zA) (row_drew (unhide A)))))) (put2_other (nQ _ (by omega)) (put4_other (nQ _ (by omega)) (put4_other (nQ _ (by omega)) ((unhide E9).drew.heap h (unhide zQ) (row_drew (unhide Q))))))
  replace k0 := hide k0
  replace kD := hide kD
  replace kP0 := hide kP0
  replace kP1 := hide kP1
  replace kP2 := hide kP2
  clear k9 nA nQ
  go_region_held3 (fun u => u.cell? ⟨v3.heap.size, 0, none⟩ = some (.int .i64 (n0 : Int)) ∧ u.cell? ⟨v3.heap.size, 1, none⟩ = some (.int .i64 (n1 : Int)) ∧ u.cell? ⟨v3.heap.size, 2, none⟩ = some (.int .i64 ((n0 : Int) + (n2 : Int))) ∧ u.cell? ⟨v3.heap.size, 3, none⟩ = some (.int .i64 ((n1 : Int) + (n3 : Int))) ∧ u.cell? ⟨v7.heap.size, 0, none⟩ = some (.int .i64 (n4 : Int)) ∧ u.cell? ⟨v7.heap.size, 1, none⟩ = some (.int .i64 (n5 : Int)) ∧ u.cell? ⟨v7.heap.size, 2, none⟩ = some (.int .i64 ((n4 : Int) + (n6 : Int))) ∧ u.cell? ⟨v7.heap.size, 3, none⟩ = some (.int .i64 ((n5 : Int) + (n7 : Int)))) (first | with_reducible exact unhide kD | (with_reducible refine unhide k0 _ ?_; with_reducible assumption) | (with_reducible refine unhide kP0 _ _ _ _ _ ?_; with_reducible assumption) | (with_reducible refine unhide kP1 _ _ _ _ _ _ _ _ _ ?_; with_reducible assumption) | (with_reducible refine unhide kP2 _ _ _ _ _ _ _ _ _ _ _ ?_; with_reducible assumption)) (first | (go_at_call 34; have zz := gx; refine (draw_any (unhide Ex) hl 18 (by omega) (by omega)).mono ?_; rintro e vy ⟨m1, hm1, rfl, dy, gy'⟩; have gy := grown_trans gx gy'; clear gy'; have hby := dy.below' (unhide B1) (unhide B1).size; have r0 := row_next hby (unhide H0); have r1 := row_next hby (unhide H1); have r2 := row_next hby (unhide H2); obtain ⟨c0, c1, c2, c3⟩ := row4 r0; obtain ⟨c4, c5, c6, c7⟩ := row4 r1; obtain ⟨c8, c9⟩ := row2 r2; obtain ⟨f0, f1, f2, f3⟩ := free4 r0; obtain ⟨f4, f5, f6, f7⟩ := free4 r1; obtain ⟨f8, f9⟩ := free2 r2) | (go_at_call 34; refine (draw_any (unhide E9).drew hl 18 (by omega) (by omega)).mono ?_; rintro e vx ⟨m0, hm0, rfl, dx, gx⟩; have Ex := hide dx; clear dx))
  all_goals
    rename_i hH
    clear hH
    go_wp2_with fail
    refine bodyPost_ret (v := .tuple #[.agg #[.int .i64 (n0 : Int), .int .i64 (n1 : Int), .int .i64 ((n0 : Int) + (n2 : Int)), .int .i64 ((n1 : Int) + (n3 : Int))], .agg #[.int .i64 (n4 : Int), .int .i64 (n5 : Int), .int .i64 ((n4 : Int) + (n6 : Int)), .int .i64 ((n5 : Int) + (n7 : Int))], .agg #[.int .i64 (m0 : Int), .int .i64 (m1 : Int)]]) (by simp [results, Try.results10, go_sem, *]) rfl ⟨(n0 : Int), (n1 : Int), ((n0 : Int) + (n2 : Int)), ((n1 : Int) + (n3 : Int)), (n4 : Int), (n5 : Int), ((n4 : Int) + (n6 : Int)), ((n5 : Int) + (n7 : Int)), m0, m1, ⟨⟨by omega, by omega⟩, ⟨by omega, by omega⟩, ⟨by omega, by omega⟩, ⟨by omega, by omega⟩⟩, ⟨⟨by omega, by omega⟩, ⟨by omega, by omega⟩, ⟨by omega, by omega⟩, ⟨by omega, by omega⟩⟩, ⟨⟨by omega, by omega⟩, ⟨by omega, by omega⟩⟩, rfl, ?_⟩
    exact below_put2 (below_put4 (below_put4 (below_two (unhide HB) hby) (by omega) _ _ _ _) (by omega) _ _ _ _) (by omega) _ _
end Go.Proofs.Yticgjigjlclefaa

/-
  Boxes joined one behind the other: the least box around all.
-/
namespace Go.Proofs.Yticgjigjlclefaa
open Go.RowKit

structure B4 where
  x0 : Int
  y0 : Int
  x1 : Int
  y1 : Int

def B4.none : B4 := ⟨0, 0, 0, 0⟩
def B4.bare (p : B4) : Bool := emptyB p.x0 p.y0 p.x1 p.y1
def joinB (p q : B4) : B4 := ⟨join0 p.x0 p.y0 p.x1 p.y1 q.x0 q.y0 q.x1 q.y1, join1 p.x0 p.y0 p.x1 p.y1 q.x0 q.y0 q.x1 q.y1, join2 p.x0 p.y0 p.x1 p.y1 q.x0 q.y0 q.x1 q.y1, join3 p.x0 p.y0 p.x1 p.y1 q.x0 q.y0 q.x1 q.y1⟩
def joinN (F : Nat → B4) : Nat → B4
  | 0 => B4.none
  | n + 1 => joinB (joinN F n) (F n)

/-- Four numbers of a box lie in a row of boxes. -/
def HasBox (w : World) (s i : Nat) (p : B4) : Prop :=
  w.cell? ⟨s, i * 4, none⟩ = some (.int .i64 p.x0) ∧ w.cell? ⟨s, i * 4 + 1, none⟩ = some (.int .i64 p.y0) ∧ w.cell? ⟨s, i * 4 + 2, none⟩ = some (.int .i64 p.x1) ∧ w.cell? ⟨s, i * 4 + 3, none⟩ = some (.int .i64 p.y1)
theorem HasBox.next {w w1 : World} {s i : Nat} {p : B4} (h : HasBox w s i p) (hb : Below w.heap.size w w1) : HasBox w1 s i p := ⟨kc hb h.1, kc hb h.2.1, kc hb h.2.2.1, kc hb h.2.2.2⟩

theorem joinB_bare {p q : B4} (h : q.bare = true) (hp : p.bare = true → p = B4.none) : joinB p q = p := by
  unfold B4.bare at h hp
  unfold joinB join0 join1 join2 join3
  rw [h]
  cases e : emptyB p.x0 p.y0 p.x1 p.y1
  · simp
  · have := hp e; simp [this, B4.none]
theorem joinB_first {p q : B4} (h : q.bare = false) (hp : p.bare = true) : joinB p q = q := by
  unfold B4.bare at h hp
  unfold joinB join0 join1 join2 join3
  rw [h, hp]
  simp
theorem joinB_both {p q : B4} (h : q.bare = false) (hp : p.bare = false) : joinB p q = ⟨min p.x0 q.x0, min p.y0 q.y0, max p.x1 q.x1, max p.y1 q.y1⟩ := by
  unfold B4.bare at h hp
  unfold joinB join0 join1 join2 join3
  rw [h, hp]
  simp only [cond_false, leastI, mostI, Int.min_def, Int.max_def]
  congr 1 <;> (split <;> split <;> omega)
theorem joinN_none (F : Nat → B4) (n : Nat) : (joinN F n).bare = true → joinN F n = B4.none := by
  induction n with
  | zero => intro _; rfl
  | succ n ih =>
    intro h
    change (joinB (joinN F n) (F n)).bare = true at h
    change joinB (joinN F n) (F n) = B4.none
    cases e1 : (F n).bare
    · cases e2 : (joinN F n).bare
      · rw [joinB_both e1 e2] at h
        unfold B4.bare emptyB at e1 e2 h
        simp at e1 e2 h
        omega
      · rw [joinB_first e1 e2] at h; rw [e1] at h; exact absurd h (by decide)
    · rw [joinB_bare e1 ih] at h ⊢; exact ih h
end Go.Proofs.Yticgjigjlclefaa

/-
  The walk of GrowBox (spec).
-/
namespace Go.Proofs.Yticgjigjlclefaa
open Go.RowKit

def k5 (x : Int) : Int := clampI x (-33554432) 33554432
theorem k5_bd (x : Int) : -33554432 ≤ k5 x ∧ k5 x ≤ 33554432 := by unfold k5 clampI; split <;> (try split) <;> omega
theorem n5_bd (x : Int) : 0 ≤ clampI x 0 8388608 ∧ clampI x 0 8388608 ≤ 8388608 := by unfold clampI; split <;> (try split) <;> omega

def grow0 (a b c d n : Int) : Int := bif emptyB a b c d then 0 else k5 (k5 a - clampI n 0 8388608)
def grow1 (a b c d n : Int) : Int := bif emptyB a b c d then 0 else k5 (k5 b - clampI n 0 8388608)
def grow2 (a b c d n : Int) : Int := bif emptyB a b c d then 0 else k5 (k5 c + clampI n 0 8388608)
def grow3 (a b c d n : Int) : Int := bif emptyB a b c d then 0 else k5 (k5 d + clampI n 0 8388608)

theorem specK5_any (x : Int) (w : World) :
    Calls Try.prog 42 #[.int .i64 x] w fun r w' => r = .returned (.int .i64 (k5 x)) ∧ w' = w := by
  have H := hide (specClamp_any x (-33554432) 33554432)
  go_enter Try.func42, Try.ntmps42
  go_wp2_with fail
  go_fit (unhide H _)
  rintro r w1 ⟨rfl, rfl⟩
  go_wp2_with fail
  go_ret
  exact ⟨rfl, rfl⟩

end Go.Proofs.Yticgjigjlclefaa

/-
  The walk of the specification's BoxOf.
-/
namespace Go.Proofs.Yticgjigjlclefaa
open Go.RowKit

/-- The box of one point. -/
def pbox (p : Int × Int) : B4 := ⟨k5 p.1, k5 p.2, k5 p.1 + 1, k5 p.2 + 1⟩

set_option maxHeartbeats 4000000 in
set_option maxRecDepth 100000 in
theorem specBoxOf_any (f : Nat → Int × Int) (ao : Option Addr) (n cap : Nat) (hn : n ≤ 1048576) (w : World) (H : ∀ i, i < n → PtIn w ao i (f i)) :
    Calls Try.prog 18 #[.slice ao n cap] w fun r w' => r = .returned (.agg #[.int .i64 (joinN (fun i => pbox (f i)) n).x0, .int .i64 (joinN (fun i => pbox (f i)) n).y0, .int .i64 (joinN (fun i => pbox (f i)) n).x1, .int .i64 (joinN (fun i => pbox (f i)) n).y1]) ∧ Below w.heap.size w w' := by
  have HH := hide H
  clear H
  go_enter Try.func18, Try.ntmps18
  go_wp2_with fail
  go_loopw [4] (fun i u => ∃ k : Nat, k ≤ n ∧ i = .int .i64 k ∧ u.heap[w.heap.size]? = some (.cells #[.int .i64 0, .int .i64 0, .int .i64 0, .int .i64 0] 25 (0, 0)) ∧ u.heap[w.heap.size + 1]? = some (.cells #[.int .i64 (joinN (fun i => pbox (f i)) k).x0, .int .i64 (joinN (fun i => pbox (f i)) k).y0, .int .i64 (joinN (fun i => pbox (f i)) k).x1, .int .i64 (joinN (fun i => pbox (f i)) k).y1] 25 (0, 0)) ∧ Below w.heap.size w u) (fun i _ => n - (intOf i).toNat)
  case atStart => exact ⟨0, Nat.zero_le _, rfl, al2_0 _ _ _, al2_1 _ _ _, al2_below _ _ _⟩
  case round =>
    obtain ⟨k, hk, rfl, R, A, hb⟩ := hrel
    by_cases hlt : k < n
    · have HP := (unhide HH k hlt).next hb
      have ex : Hid (joinN (fun i => pbox (f i)) (k + 1) = joinB (joinN (fun i => pbox (f i)) k) (pbox (f k))) := rfl
      generalize joinN (fun i => pbox (f i)) k = P at A ex
      generalize f k = p at HP ex
      obtain ⟨x, y⟩ := p
      obtain ⟨p0, p1, p2, p3⟩ := P
      obtain ⟨s, rfl, g0, g1⟩ := HP
      have HB := hide hb
      clear hb
      have K0 := hide (specK5_any x)
      have K1 := hide (specK5_any y)
      have E := hide (specJoinBox_any p0 p1 p2 p3 (k5 x) (k5 y) (k5 x + 1) (k5 y + 1))
      change Hid (∀ w, Calls _ _ _ w fun r w' => r = .returned (.agg #[.int .i64 (joinB ⟨p0, p1, p2, p3⟩ (pbox (x, y))).x0, .int .i64 (joinB ⟨p0, p1, p2, p3⟩ (pbox (x, y))).y0, .int .i64 (joinB ⟨p0, p1, p2, p3⟩ (pbox (x, y))).x1, .int .i64 (joinB ⟨p0, p1, p2, p3⟩ (pbox (x, y))).y1]) ∧ Below w.heap.size w w') at E
      generalize joinB ⟨p0, p1, p2, p3⟩ (pbox (x, y)) = J at E ex
      obtain ⟨b1, b2⟩ := k5_bd x
      obtain ⟨b3, b4⟩ := k5_bd y
      generalize k5 x = kx at K0 E b1 b2
      generalize k5 y = ky at K1 E b3 b4
      have v0 : IntKind.i64.wrap (kx + 1) = kx + 1 := IntWalk.i64_in _ (by omega)
      have v1 : IntKind.i64.wrap (ky + 1) = ky + 1 := IntWalk.i64_in _ (by omega)
      dsimp only at A g0 g1
      obtain ⟨a0, a1, a2, a3⟩ := row4 A
      go_wp2_with fail
      go_fit (unhide K0 _)
      rintro r w1 ⟨rfl, rfl⟩
      go_wp2_with fail
      go_fit (unhide K1 _)
      rintro r w1 ⟨rfl, rfl⟩
      go_wp2_with fail
      go_fit (unhide E _)
      rintro r w2 ⟨rfl, hb⟩
      replace R := row_next hb R
      replace A := row_next hb A
      replace HB := hide (below_two (unhide HB) hb)
      clear hb a0 a1 a2 a3 g0 g1
      obtain ⟨a0, a1, a2, a3⟩ := row4 A
      obtain ⟨f0, f1, f2, f3⟩ := free4 A
      go_wp2_with fail
      go_roundw
      case rel => exact ⟨k + 1, by omega, by go_num, put4_other (by omega) R, by rw [unhide ex]; exact put4_row A, below_put4 (unhide HB) (by omega) _ _ _ _⟩
      case measure => simp [intOf]; omega
    · have hke : k = n := by omega
      subst hke
      have HB := hide hb
      clear hb
      obtain ⟨a0, a1, a2, a3⟩ := row4 A
      obtain ⟨r0, r1, r2, r3⟩ := row4 R
      obtain ⟨f0, f1, f2, f3⟩ := free4 R
      go_wp2_with fail
      refine bodyPost_ret (v := .agg #[.int .i64 (joinN (fun i => pbox (f i)) k).x0, .int .i64 (joinN (fun i => pbox (f i)) k).y0, .int .i64 (joinN (fun i => pbox (f i)) k).x1, .int .i64 (joinN (fun i => pbox (f i)) k).y1]) (by simp [results, Try.results18, go_sem, r0, r1, r2, r3]) rfl ⟨rfl, ?_⟩
      exact below_put4 (unhide HB) (Nat.le_refl _) _ _ _ _
end Go.Proofs.Yticgjigjlclefaa

/-
  Rows of boxes that are made and written one by one.
-/
namespace Go.Proofs.Yticgjigjlclefaa
open Go.RowKit

theorem infoBox : (Try.prog.info? 25).map (fun i => (i.zero, i.size, i.bytes)) = some (some (.agg #[.int .i64 0, .int .i64 0, .int .i64 0, .int .i64 0]), 4, 32) := by kernel_rfl

/-- The first k boxes of a row are those of G. -/
def BxAt (xs : List Value) (G : Nat → B4) (k : Nat) : Prop := ∀ j, j < k → xs[j * 4]? = some (.int .i64 (G j).x0) ∧ xs[j * 4 + 1]? = some (.int .i64 (G j).y0) ∧ xs[j * 4 + 2]? = some (.int .i64 (G j).x1) ∧ xs[j * 4 + 3]? = some (.int .i64 (G j).y1)
theorem BxAt.step {xs : List Value} {G : Nat → B4} {k : Nat} (h : BxAt xs G k) (hk : k * 4 + 4 ≤ xs.length) :
    BxAt ((((xs.set (k * 4) (.int .i64 (G k).x0)).set (k * 4 + 1) (.int .i64 (G k).y0)).set (k * 4 + 2) (.int .i64 (G k).x1)).set (k * 4 + 3) (.int .i64 (G k).y1)) G (k + 1) := by
  intro j hj
  by_cases hjk : j = k
  · subst hjk
    refine ⟨?_, ?_, ?_, ?_⟩ <;> simp [List.getElem?_set] <;> omega
  · obtain ⟨h0, h1, h2, h3⟩ := h j (by omega)
    refine ⟨?_, ?_, ?_, ?_⟩
    · rw [List.getElem?_set_ne (by omega), List.getElem?_set_ne (by omega), List.getElem?_set_ne (by omega), List.getElem?_set_ne (by omega)]; exact h0
    · rw [List.getElem?_set_ne (by omega), List.getElem?_set_ne (by omega), List.getElem?_set_ne (by omega), List.getElem?_set_ne (by omega)]; exact h1
    · rw [List.getElem?_set_ne (by omega), List.getElem?_set_ne (by omega), List.getElem?_set_ne (by omega), List.getElem?_set_ne (by omega)]; exact h2
    · rw [List.getElem?_set_ne (by omega), List.getElem?_set_ne (by omega), List.getElem?_set_ne (by omega), List.getElem?_set_ne (by omega)]; exact h3

theorem own_cell4 {w : World} {base t g n cap k : Nat} {xs : List Value} (h : w.ownsRow base t 4 (.slice (some ⟨g, 0, none⟩) n cap) n xs) (hk : k < n) :
    ∃ v0 v1 v2 v3, w.cell? ⟨g, k * 4, none⟩ = some v0 ∧ w.cell? ⟨g, k * 4 + 1, none⟩ = some v1 ∧ w.cell? ⟨g, k * 4 + 2, none⟩ = some v2 ∧ w.cell? ⟨g, k * 4 + 3, none⟩ = some v3 := by
  have hl := h.1
  refine ⟨xs[k * 4]'(by omega), xs[k * 4 + 1]'(by omega), xs[k * 4 + 2]'(by omega), xs[k * 4 + 3]'(by omega), ?_, ?_, ?_, ?_⟩
  all_goals rw [h.cellAt _ (by omega)]; exact List.getElem?_eq_getElem _
theorem own_put4 {w : World} {base t g n cap k : Nat} {xs : List Value} (h : w.ownsRow base t 4 (.slice (some ⟨g, 0, none⟩) n cap) n xs) (x y z u : Value) :
    ((((w.setCell ⟨g, k * 4, none⟩ x).setCell ⟨g, k * 4 + 1, none⟩ y).setCell ⟨g, k * 4 + 2, none⟩ z).setCell ⟨g, k * 4 + 3, none⟩ u).ownsRow base t 4 (.slice (some ⟨g, 0, none⟩) n cap) n ((((xs.set (k * 4) x).set (k * 4 + 1) y).set (k * 4 + 2) z).set (k * 4 + 3) u) :=
  ((((h.stored _ _).1.stored _ _).1.stored _ _).1.stored _ _).1
theorem below_at4 {B : Nat} {a w : World} (h : Below B a w) {b : Nat} (hb : B ≤ b) (o0 o1 o2 o3 : Nat) (x y z u : Value) : Below B a ((((w.setCell ⟨b, o0, none⟩ x).setCell ⟨b, o1, none⟩ y).setCell ⟨b, o2, none⟩ z).setCell ⟨b, o3, none⟩ u) :=
  (((h.setCell (p := ⟨b, o0, none⟩) hb x).setCell (p := ⟨b, o1, none⟩) hb y).setCell (p := ⟨b, o2, none⟩) hb z).setCell (p := ⟨b, o3, none⟩) hb u
theorem own_boxes {w : World} {base t g n cap : Nat} {xs : List Value} {G : Nat → B4} (h : w.ownsRow base t 4 (.slice (some ⟨g, 0, none⟩) n cap) n xs) (hx : BxAt xs G n) : ∀ i, i < n → HasBox w g i (G i) := by
  intro i hi
  obtain ⟨h0, h1, h2, h3⟩ := hx i hi
  refine ⟨?_, ?_, ?_, ?_⟩
  · rw [h.cellAt _ (by omega)]; exact h0
  · rw [h.cellAt _ (by omega)]; exact h1
  · rw [h.cellAt _ (by omega)]; exact h2
  · rw [h.cellAt _ (by omega)]; exact h3
end Go.Proofs.Yticgjigjlclefaa

/-
  The walk of the program's joined: the least box around a row of boxes.
-/
namespace Go.Proofs.Yticgjigjlclefaa
open Go.RowKit

end Go.Proofs.Yticgjigjlclefaa

/-
  The walk of the program's BoxOf.
-/
namespace Go.Proofs.Yticgjigjlclefaa
open Go.RowKit

end Go.Proofs.Yticgjigjlclefaa

/-
  The walk of Squares (spec).
-/
namespace Go.Proofs.Yticgjigjlclefaa
open Go.RowKit

def sqrs0 (a b c d : Int) : Int := bif emptyB a b c d then 0 else fdivI (k5 a) 256
def sqrs1 (a b c d : Int) : Int := bif emptyB a b c d then 0 else fdivI (k5 b) 256
def sqrs2 (a b c d : Int) : Int := bif emptyB a b c d then 0 else -fdivI (-k5 c) 256
def sqrs3 (a b c d : Int) : Int := bif emptyB a b c d then 0 else -fdivI (-k5 d) 256
theorem f5_bd {x : Int} (h1 : -33554432 ≤ x) (h2 : x ≤ 33554432) : -33554432 ≤ fdivI x 256 ∧ fdivI x 256 ≤ 33554432 := by unfold fdivI; rw [if_neg (by decide)]; omega

end Go.Proofs.Yticgjigjlclefaa

/-
  The walk of drawn points.
-/
namespace Go.Proofs.Yticgjigjlclefaa
open Go.RowKit

set_option maxHeartbeats 1000000 in
set_option maxRecDepth 100000 in
theorem l04Point_any (g B : Nat) (a : Option Addr) (len cap : Nat) (w : World) (hl : len ≤ 1048576) (h : DS w w g B a len cap) :
    Calls Try.prog 41 #[.pointer (some ⟨g, 0, none⟩)] w fun e w' => ∃ x y : Int, (-300 ≤ x ∧ x ≤ 3299) ∧ (-300 ≤ y ∧ y ≤ 3299) ∧ e = .returned (.agg #[.int .i64 x, .int .i64 y]) ∧ DS w w' g B a len cap := by
  have D0 := hide h
  clear h
  go_enter Try.func41, Try.ntmps41
  go_wp2_with fail
  have D1 := hide ((unhide D0).alloc (.cells #[.int .i64 0, .int .i64 0] 27))
  refine (draw_any (unhide D1) hl 3600 (by omega) (by omega)).mono ?_
  rintro e w1 ⟨x, hx, rfl, d2, g2⟩
  have R1 := hide ((unhide D1).heap g2 (Nat.le_refl _) (al1_0 _ _))
  have D2 := hide d2
  clear d2 g2
  go_wp2_with fail
  refine (draw_any (unhide D2) hl 3600 (by omega) (by omega)).mono ?_
  rintro e w2 ⟨y, hy, rfl, d3, g3⟩
  have hr := (unhide D2).heap g3 (Nat.le_refl _) (unhide R1)
  obtain ⟨r0, r1⟩ := row2 hr
  obtain ⟨f0, f1⟩ := free2 hr
  have D3 := hide d3
  clear d3 g3 hr
  go_wp2_with fail
  refine bodyPost_ret (v := .agg #[.int .i64 ((x : Int) - 300), .int .i64 ((y : Int) - 300)]) (by simp [results, Try.results41, go_sem, r0, r1]) rfl ⟨_, _, ?_, ?_, rfl, ?_⟩
  · omega
  · omega
  · exact ((unhide D3).put 0 _ (Nat.le_refl _)).put 1 _ (Nat.le_refl _)
end Go.Proofs.Yticgjigjlclefaa

/-
  Rows of drawn points: one more is laid behind them, beside the cursor.
-/
namespace Go.Proofs.Yticgjigjlclefaa
open Go.RowKit

theorem wpList_append_curP {P : Program} {ops : Array Oper} {rest : List Oper} {o : Oper} {ac : Act} {Q : Exit → Act → World → Prop} (wr : World) (hgd : o.guard = none) (s x : Operand) (t e : TypeId)
    (ho : o.op = .call { callee := .builtin .append, args := #[s, x], argTypes := #[t, t] })
    (base : Nat) (i : TypeInfo) (z : Value) (bytes : Nat) (ht : P.underlying t = some (.slice e)) (hi : P.info? e = some i) (hz : i.zero = some z) (hsize : i.size = 2) (hby : i.bytes = bytes) (hz1 : z.cells.size = 2)
    (v : Value) (l : List (Int × Int)) (hs : ac.eval s = v) (hown : wr.ownsRow base e 2 v l.length (ptsV l))
    (p q : Int) (c : Nat) (hx : ac.eval x = .slice (some ⟨wr.heap.size, 0, none⟩) 1 c)
    (h63 : l.length + 1 ≤ maxLen) (hlen : (l.length + 1) * bytes ≤ 140737488355328) (w0 : World) (hb0 : w0.heap.size ≤ base) (hbase : base ≤ wr.heap.size)
    (g : Nat) (a : Option Addr) (len cap : Nat) (hgb : g < base) (hG : w0.grownBy wr (some g)) (hC : Cur wr g a len cap)
    (h : ∀ v' w', w'.ownsRow base e 2 v' (l ++ [(p, q)]).length (ptsV (l ++ [(p, q)])) → Cur w' g a len cap → w0.grownBy w' (some g) → wpList P ops Q rest (ac.put o.dst v') w') :
    wpList P ops Q (o :: rest) ac (wr.alloc (.cells #[.int .i64 p, .int .i64 q] e)) := by
  refine wpList_append_own (wr.alloc (.cells #[.int .i64 p, .int .i64 q] e)) hgd s x t ho base e i z 2 bytes ht hi hz hsize hby hz1 (by decide) v l.length (ptsV l) hs (hown.alloc _) ⟨wr.heap.size, 0, none⟩ 1 c (ptV (p, q)) hx (by simp [ptV]) ?_ (by intro u hu; simp [ptV] at hu; rcases hu with rfl | rfl <;> rfl) h63 hlen (by simp; omega) ?_
  · intro j u hj
    have hadd : (⟨wr.heap.size, 0, none⟩ : Addr).add j = ⟨wr.heap.size, j, none⟩ := by unfold Addr.add; split <;> simp_all
    rw [hadd, World.cell?_alloc_mark wr #[.int .i64 p, .int .i64 q] e (0, 0) j, ← hj]
    simp [ptV]
  · intro v' w' ho' hg _
    have hr : ∀ k, v.ownBlock = some k → base ≤ k := fun k hk => (hown.lt k hk).1
    refine h v' w' (by rw [ptsV_app, List.length_append]; exact ho') ?_ ?_
    · exact (hC.grown (World.grownBy_alloc wr _ none) (by simp)).grown hg (fun e => by have := hr g e; omega)
    · exact grown_own (grown_own hG (World.grownBy_alloc wr _ none) (by simp)) hg (fun k hk => Nat.le_trans hb0 (hr k hk))
end Go.Proofs.Yticgjigjlclefaa

/-
  The walk of DrawPoints: a row of four to eight drawn points.
-/
namespace Go.Proofs.Yticgjigjlclefaa
open Go.RowKit

def SmallPt (p : Int × Int) : Prop := (-300 ≤ p.1 ∧ p.1 ≤ 3299) ∧ (-300 ≤ p.2 ∧ p.2 ≤ 3299)
theorem small_snoc {l : List (Int × Int)} {p : Int × Int} (h : ∀ q ∈ l, SmallPt q) (hp : SmallPt p) : ∀ q ∈ l ++ [p], SmallPt q := by
  intro q hq; rcases List.mem_append.1 hq with h1 | h1
  · exact h q h1
  · simp at h1; subst h1; exact hp

set_option maxHeartbeats 2000000 in
set_option maxRecDepth 100000 in
theorem drawPoints_any (a : Option Addr) (len cap : Nat) (w : World) (hl : len ≤ 1048576) (hin : InB w.heap.size w a len) :
    Calls Try.prog 17 #[.slice a len cap] w fun e w' => ∃ (v : Value) (l : List (Int × Int)), 4 ≤ l.length ∧ l.length ≤ 8 ∧ (∀ q ∈ l, SmallPt q) ∧ e = .returned v ∧ w'.ownsRow w.heap.size 27 2 v l.length (ptsV l) ∧ Below w.heap.size w w' := by
  obtain ⟨i0, hi, hz0, hz1, hz2⟩ := info_parts infoPoint
  have HI := hide hin
  clear hin
  go_enter Try.func17, Try.ntmps17
  go_wp2_with fail
  refine (l01New_any a len cap _ hl (unhide HI)).mono ?_
  rintro e w1 ⟨g, hg, rfl, hc, hb1⟩
  have D1 := hide (DS.start hc ((unhide HI).below hb1) hb1.size hg)
  have B1 := hide hb1
  clear hc hb1
  go_wp2
  go_loopw [4, 5] (fun v i u => ∃ (k : Nat) (l : List (Int × Int)), k ≤ 8 ∧ i = .int .i64 k ∧ l.length = k ∧ (∀ q ∈ l, SmallPt q) ∧ u.ownsRow w1.heap.size 27 2 v l.length (ptsV l) ∧ DS w1 u g w.heap.size a len cap) (fun _ i _ => 8 - (intOf i).toNat)
  case atStart => exact ⟨0, [], by omega, rfl, rfl, by simp, World.ownsRow_lit w1 #[] 0 (Nat.le_refl _) (by decide) rfl, (unhide D1).alloc _⟩
  case round =>
    obtain ⟨k, l, hk, rfl, hlk, hsm, hown, hd⟩ := hrel
    have hgl := (unhide D1).lt
    have D := hide hd
    have O := hide hown
    have LK := hide hlk
    have SM := hide hsm
    clear hd hown hlk hsm
    go_wp2_with fail
    refine (draw_any (unhide D) hl 5 (by omega) (by omega)).mono ?_
    rintro e w2 ⟨x, hx, rfl, d2, g2⟩
    replace O := hide (own_grown (unhide O) g2 hgl)
    have D2 := hide d2
    clear d2 g2 D
    have vv : IntKind.i64.wrap (4 + (x : Int)) = 4 + (x : Int) := IntWalk.i64_in _ (by omega)
    by_cases hlt : (k : Int) < 4 + (x : Int)
    · go_wp2_with fail
      refine (l04Point_any g _ a len cap _ hl (unhide D2).again).mono ?_
      rintro e w3 ⟨px, py, hpx, hpy, rfl, d3⟩
      replace O := hide (own_grown (unhide O) d3.gb hgl)
      have D3 := hide ((unhide D2).next d3.cur d3.gb)
      clear d3 D2
      have SP := hide (show SmallPt (px, py) from ⟨hpx, hpy⟩)
      clear hpx hpy
      go_wp2_with (first | (at_builtin; go_must (refine wpList_append_curP w3 rfl _ _ 34 27 rfl w1.heap.size i0 (.agg #[.int .i64 0, .int .i64 0]) 16 Try.underlying34 hi hz0 hz1 hz2 rfl _ l (by rfl) (unhide O) px py 1 rfl (by have := unhide LK; unfold maxLen; omega) (by have := unhide LK; omega) w1 (Nat.le_refl _) (unhide D3).size g a len cap hgl (unhide D3).gb (unhide D3).cur ?_); intro v' w4 hown2 hc2 hg2))
      go_roundw
      case rel => exact ⟨k + 1, l ++ [(px, py)], by omega, by go_num, by have := unhide LK; simp; omega, small_snoc (unhide SM) (unhide SP), hown2, (unhide D1).next hc2 hg2⟩
      case measure => simp [intOf]; omega
    · go_wp2
      go_ret
      exact ⟨_, l, by have := unhide LK; omega, by have := unhide LK; omega, unhide SM, rfl, own_low (unhide O) (unhide B1).size, (unhide D2).below (unhide B1) (unhide B1).size⟩
end Go.Proofs.Yticgjigjlclefaa

/-
  The box of a few near points: what it has, and where it begins; its squares.
-/
namespace Go.Proofs.Yticgjigjlclefaa
open Go.RowKit

theorem k5_near {x : Int} (h1 : -300 ≤ x) (h2 : x ≤ 3300) : k5 x = x := by unfold k5 clampI; rw [if_neg (by omega), if_neg (by omega)]
def nbox (p : Int × Int) : B4 := ⟨p.1, p.2, p.1 + 1, p.2 + 1⟩
theorem pbox_near {p : Int × Int} (h : SmallPt p) : pbox p = nbox p := by
  unfold pbox nbox; rw [k5_near h.1.1 (by have := h.1.2; omega), k5_near h.2.1 (by have := h.2.2; omega)]
theorem joinN_same {F G : Nat → B4} : ∀ {n : Nat}, (∀ i, i < n → F i = G i) → joinN F n = joinN G n
  | 0, _ => rfl
  | n + 1, h => by change joinB (joinN F n) (F n) = joinB (joinN G n) (G n); rw [joinN_same (fun i hi => h i (by omega)), h n (by omega)]

/-- What the box of the first n points says. -/
structure BoxHas (f : Nat → Int × Int) (n : Nat) (J : B4) : Prop where
  lox : -300 ≤ J.x0 ∧ J.x0 < J.x1 ∧ J.x1 ≤ 3300
  loy : -300 ≤ J.y0 ∧ J.y0 < J.y1 ∧ J.y1 ≤ 3300
  has : ∀ i, i < n → J.x0 ≤ (f i).1 ∧ (f i).1 < J.x1 ∧ J.y0 ≤ (f i).2 ∧ (f i).2 < J.y1
  edge : ∃ i, i < n ∧ (f i).1 = J.x0
theorem BoxHas.bare {f : Nat → Int × Int} {n : Nat} {J : B4} (h : BoxHas f n J) : J.bare = false := by
  unfold B4.bare; rw [full_iff]; exact ⟨h.lox.2.1, h.loy.2.1⟩
theorem nbox_bare (p : Int × Int) : (nbox p).bare = false := by unfold B4.bare nbox; rw [full_iff]; dsimp only; omega
theorem boxHas {f : Nat → Int × Int} : ∀ {n : Nat}, (∀ i, i < n + 1 → SmallPt (f i)) → BoxHas f (n + 1) (joinN (fun i => nbox (f i)) (n + 1))
  | 0, h => by
    have e : joinN (fun i => nbox (f i)) 1 = nbox (f 0) := joinB_first (nbox_bare _) rfl
    rw [e]
    obtain ⟨⟨h1, h2⟩, h3, h4⟩ := h 0 (by omega)
    refine ⟨⟨?_, ?_, ?_⟩, ⟨?_, ?_, ?_⟩, ?_, ⟨0, by omega, rfl⟩⟩
    all_goals (try unfold nbox; dsimp only)
    any_goals omega
    intro i hi
    obtain rfl : i = 0 := by omega
    omega
  | n + 1, h => by
    have ih := boxHas (f := f) (n := n) (fun i hi => h i (by omega))
    have e : joinN (fun i => nbox (f i)) (n + 1 + 1) = _ := joinB_both (nbox_bare (f (n + 1))) ih.bare
    rw [e]
    change BoxHas f (n + 1 + 1) _
    generalize joinN (fun i => nbox (f i)) (n + 1) = J at ih
    obtain ⟨⟨h1, h2⟩, h3, h4⟩ := h (n + 1) (by omega)
    obtain ⟨⟨a1, a2, a3⟩, ⟨b1, b2, b3⟩, hh, j, hj, he⟩ := ih
    unfold nbox
    dsimp only
    generalize hp : f (n + 1) = p at h1 h2 h3 h4 ⊢
    refine ⟨⟨?_, ?_, ?_⟩, ⟨?_, ?_, ?_⟩, ?_, ?_⟩
    · dsimp only; omega
    · dsimp only; omega
    · dsimp only; omega
    · dsimp only; omega
    · dsimp only; omega
    · dsimp only; omega
    · intro i hi
      dsimp only
      by_cases hin : i < n + 1
      · have := hh i hin; omega
      · obtain rfl : i = n + 1 := by omega
        rw [hp]; omega
    · dsimp only
      by_cases hm : J.x0 ≤ p.1
      · exact ⟨j, by omega, by omega⟩
      · exact ⟨n + 1, by omega, by rw [hp]; omega⟩

theorem sqrs_full {J : B4} (h : J.bare = false) : sqrs0 J.x0 J.y0 J.x1 J.y1 = fdivI (k5 J.x0) 256 ∧ sqrs1 J.x0 J.y0 J.x1 J.y1 = fdivI (k5 J.y0) 256 ∧ sqrs2 J.x0 J.y0 J.x1 J.y1 = -fdivI (-k5 J.x1) 256 ∧ sqrs3 J.x0 J.y0 J.x1 J.y1 = -fdivI (-k5 J.y1) 256 := by
  unfold B4.bare at h
  unfold sqrs0 sqrs1 sqrs2 sqrs3
  rw [h]
  exact ⟨rfl, rfl, rfl, rfl⟩
theorem sqrs_has {f : Nat → Int × Int} {n : Nat} {J : B4} (h : BoxHas f n J) (i : Nat) (hi : i < n) :
    inBoxB (sqrs0 J.x0 J.y0 J.x1 J.y1) (sqrs1 J.x0 J.y0 J.x1 J.y1) (sqrs2 J.x0 J.y0 J.x1 J.y1) (sqrs3 J.x0 J.y0 J.x1 J.y1) (fdivI (f i).1 256) (fdivI (f i).2 256) = true := by
  obtain ⟨e0, e1, e2, e3⟩ := sqrs_full h.bare
  obtain ⟨a1, a2, a3⟩ := h.lox
  obtain ⟨b1, b2, b3⟩ := h.loy
  obtain ⟨c1, c2, c3, c4⟩ := h.has i hi
  rw [e0, e1, e2, e3, k5_near a1 (by omega), k5_near b1 (by omega), k5_near (by omega) a3, k5_near (by omega) b3, inBox_iff]
  have fd (x : Int) : fdivI x 256 = x / 256 := by unfold fdivI; rw [if_neg (by decide)]
  rw [fd, fd, fd, fd, fd, fd]
  omega
theorem box_has {f : Nat → Int × Int} {n : Nat} {J : B4} (h : BoxHas f n J) (i : Nat) (hi : i < n) : inBoxB J.x0 J.y0 J.x1 J.y1 (f i).1 (f i).2 = true := by
  obtain ⟨c1, c2, c3, c4⟩ := h.has i hi
  rw [inBox_iff]; omega
end Go.Proofs.Yticgjigjlclefaa

/-
  DrawPlaces: twelve numbers in 0 .. 9999.
-/
namespace Go.Proofs.Yticgjigjlclefaa
open Go.RowKit


/-- A number as a value. -/
def Nv (n : Nat) : Value := .int .i64 (n : Int)
theorem all_snoc {p : List Nat} {x n : Nat} (h : ∀ y ∈ p, y < n) (hx : x < n) : ∀ y ∈ p ++ [x], y < n := by
  intro y hy
  rcases List.mem_append.1 hy with h' | h'
  · exact h y h'
  · simp at h'; omega
theorem num_row {w : World} {base x : Nat} {v : Value} {p : List Nat} (h : w.ownsRow base 3 1 v (p.map Nv ++ #[Value.int .i64 (x : Int)].toList).length (p.map Nv ++ #[Value.int .i64 (x : Int)].toList)) : w.ownsRow base 3 1 v (p ++ [x]).length ((p ++ [x]).map Nv) := by
  have e : p.map Nv ++ #[Value.int .i64 (x : Int)].toList = (p ++ [x]).map Nv := by simp [Nv]
  rw [e, List.length_map] at h
  exact h

theorem big_no (a : Option Addr) (len cap : Nat) (hl : len ≤ 1048576) (w : World) :
    Calls Try.prog 9 #[.slice a len cap] w fun e w' => e = .returned (.bool false) ∧ w' = w := by
  have hd : decide ((1048576 : Int) < (len : Int)) = false := by simp; omega
  go_enter Try.func9, Try.ntmps9
  go_wp2
  go_ret
  exact ⟨rfl, rfl⟩
theorem big_yes (a : Option Addr) (len cap : Nat) (hl : ¬ len ≤ 1048576) (w : World) :
    Calls Try.prog 9 #[.slice a len cap] w fun e w' => e = .returned (.bool true) ∧ w' = w := by
  have hd : decide ((1048576 : Int) < (len : Int)) = true := by simp; omega
  go_enter Try.func9, Try.ntmps9
  go_wp2
  go_ret
  exact ⟨rfl, rfl⟩

set_option maxHeartbeats 1000000 in
set_option maxRecDepth 100000 in
theorem drawPlaces_any (a : Option Addr) (len cap : Nat) (w : World) (hl : len ≤ 1048576) (hin : InB w.heap.size w a len) :
    Calls Try.prog 19 #[.slice a len cap] w fun e w' => ∃ (v : Value) (p : List Nat), p.length = 12 ∧ (∀ x ∈ p, x < 10000) ∧ e = .returned v ∧ w'.ownsRow w.heap.size 3 1 v p.length (p.map Nv) ∧ Below w.heap.size w w' := by
  obtain ⟨i0, hi, hz0, hz1, hz2⟩ := info_parts Try.info3
  have HI := hide hin
  clear hin
  go_enter Try.func19, Try.ntmps19
  go_wp2_with fail
  refine (l01New_any a len cap _ hl (unhide HI)).mono ?_
  rintro e w1 ⟨g, hgB, rfl, hc1, hb1⟩
  have C1 := hide hc1
  have B1 := hide hb1
  clear hc1 hb1
  go_wp2_with fail
  refine (l01Byte_any g w.heap.size a len cap _ hl hgB ((unhide HI).below (unhide B1)) (unhide C1)).mono ?_
  rintro e w2 ⟨x0, _, rfl, hc2, hg2⟩
  have B2 := hide ((unhide B1).grown hg2 (unhide B1).size (fun k hk => by cases hk; exact hgB))
  have C2 := hide hc2
  clear hc2 hg2
  go_wp2
  go_loopw [4, 5] (fun v i wr => ∃ (k : Nat) (p : List Nat), k ≤ 12 ∧ i = .int .i64 k ∧ p.length = k ∧ (∀ x ∈ p, x < 10000) ∧ wr.ownsRow w2.heap.size 3 1 v p.length (p.map Nv) ∧ Cur wr g a len cap ∧ w2.grownBy wr (some g)) (fun _ i _ => 12 - (intOf i).toNat)
  case atStart => exact ⟨0, [], by omega, rfl, rfl, by simp, World.ownsRow_lit w2 #[] 0 (Nat.le_refl _) (by decide) rfl, (unhide C2).grown (World.grownBy_alloc w2 _ none) (by simp), World.grownBy_alloc w2 _ _⟩
  case round =>
    obtain ⟨k, p, hk, rfl, hlk, hpb, hown, hc, hg⟩ := hrel
    have hgl := (unhide C2).lt
    have C := hide hc
    have G := hide hg
    have O := hide hown
    have LK := hide hlk
    have PB := hide hpb
    clear hc hg hlk hown hpb
    by_cases hlt : k < 12
    · go_wp2_with (first | (go_at_call 34; go_must (refine (l01Below_any g w.heap.size a len cap 10000 (by omega) (by omega) _ hl hgB (Nat.le_trans (unhide B2).size (unhide G).size) (((unhide HI).below (unhide B2)).grown (unhide G) hgB (unhide B2).size) (unhide C)).mono ?_); rintro e w3 ⟨x, hx, rfl, hc1, hg1⟩; have C3 := hide hc1; have G3 := hide (grown_trans (unhide G) hg1); have O3 := hide (own_grown (unhide O) hg1 hgl); clear hc1 hg1) | (at_builtin; go_must (refine wpList_append_cur w3 rfl _ _ 33 3 rfl w2.heap.size i0 (.int .i64 0) 8 Try.underlying33 hi hz0 hz1 hz2 rfl _ (p.map Nv) (by rfl) (by rw [List.length_map]; exact unhide O3) _ (by intro u hu; simp at hu; subst hu; rfl) 1 1 rfl (by rfl) (by have := unhide LK; unfold maxLen; simp; omega) (by have := unhide LK; simp; omega) w2 (Nat.le_refl _) (unhide G3).size g a len cap hgl (unhide G3) (unhide C3) ?_); intro v' w4 hown2 hc2 hg2))
      go_roundw
      case rel => exact ⟨k + 1, p ++ [x], by omega, by go_num, by have := unhide LK; simp; omega, all_snoc (unhide PB) hx, num_row hown2, hc2, hg2⟩
      case measure => simp [intOf]; omega
    · have hke : k = 12 := by omega
      have KE := hide hke
      have hlt' : ¬ (k : Int) < 12 := by omega
      clear hke
      go_wp2
      go_ret
      exact ⟨_, p, (unhide LK).trans (unhide KE), unhide PB, rfl, own_low (unhide O) (unhide B2).size, (unhide B2).grown (unhide G) (unhide B2).size (fun k hk => by cases hk; exact hgB)⟩
end Go.Proofs.Yticgjigjlclefaa

/-
  FnQuotients: drawn quotients and roots.
-/
namespace Go.Proofs.Yticgjigjlclefaa
open Go.RowKit

def absI (x : Int) : Int := if x < 0 then -x else x

theorem quot_down (a b : Int) (hb : 1 ≤ b) : fdivI a b * b ≤ a ∧ a < (fdivI a b + 1) * b ∧ a - b < fdivI a b * b ∧ (fdivI a b + 1) * b = fdivI a b * b + b := by
  have e1 : fdivI a b = a / b := by unfold fdivI; rw [if_neg (by omega)]
  rw [e1]
  have e := Int.mul_ediv_add_emod a b
  have bd := emod_bd a b hb
  have e2 : a / b * b = a - a % b := by rw [Int.mul_comm]; omega
  have e3 : (a / b + 1) * b = a / b * b + b := by rw [Int.add_mul, Int.one_mul]
  rw [e3, e2]
  omega

theorem quot_near (a b : Int) (hb : 1 ≤ b) : 2 * absI (a - rdivI a b * b) ≤ b ∧ 2 * (rdivI a b * b - a) ≤ b ∧ (2 * absI (a - rdivI a b * b) < b ∨ a < rdivI a b * b) ∧ 0 ≤ absI (a - rdivI a b * b) ∧ a - b ≤ rdivI a b * b ∧ rdivI a b * b ≤ a + b := by
  have e := Int.mul_ediv_add_emod a b
  have bd := emod_bd a b hb
  have e2 : a / b * b = a - a % b := by rw [Int.mul_comm]; omega
  have e3 : (a / b + 1) * b = a / b * b + b := by rw [Int.add_mul, Int.one_mul]
  by_cases hc : b - a % b ≤ a % b
  · have e1 : rdivI a b = a / b + 1 := by unfold rdivI; rw [if_neg (by omega), if_pos hc]
    rw [e1, e3, e2]
    have : absI (a - (a - a % b + b)) = b - a % b := by unfold absI; split <;> omega
    rw [this]
    omega
  · have e1 : rdivI a b = a / b := by unfold rdivI; rw [if_neg (by omega), if_neg hc]
    rw [e1, e2]
    have : absI (a - (a - a % b)) = a % b := by unfold absI; split <;> omega
    rw [this]
    omega

theorem prod_bd {x y : Int} (h1 : 0 ≤ x ∧ x < 10000) (h2 : 0 ≤ y ∧ y < 10000) : 0 ≤ x * y ∧ x * y ≤ 99980001 :=
  ⟨Int.mul_nonneg h1.1 h2.1, by have := Int.mul_le_mul (show x ≤ 9999 by omega) (show y ≤ 9999 by omega) h2.1 (by decide); omega⟩

theorem next_sq (s : Int) : (s + 1) * (s + 1) = s * s + 2 * s + 1 := by rw [Int.add_mul, Int.mul_add]; omega

theorem root_small {n s : Int} (h : IsRoot n s) (hn : n ≤ 99980001) : s ≤ 9999 := by
  by_cases hs : s ≤ 9999
  · exact hs
  · have := sq_mono (a := 10000) (b := s) (by omega) (by omega)
    have := h.sq
    omega

theorem fac_small {q b : Int} (hb : 1 ≤ b) (h0 : -1000000000 ≤ q * b) (h1 : q * b ≤ 1000000000) : -1000000000 ≤ q ∧ q ≤ 1000000000 := by
  by_cases hq : 0 ≤ q
  · have := Int.mul_le_mul_of_nonneg_left hb hq
    rw [Int.mul_one] at this
    omega
  · have := Int.mul_le_mul_of_nonpos_left (show q ≤ 0 by omega) hb
    rw [Int.mul_one] at this
    omega

/-- A place of the drawn ones. -/
theorem place_at {w : World} {base : Nat} {p : List Nat} {gp cap : Nat} (h : w.ownsRow base 3 1 (.slice (some ⟨gp, 0, none⟩) p.length cap) p.length (p.map Nv)) (hp : ∀ x ∈ p, x < 10000) (i : Nat) (hi : i < p.length) :
    ∃ x : Int, (0 ≤ x ∧ x < 10000) ∧ w.cell? ⟨gp, i, none⟩ = some (.int .i64 x) := by
  have hm := List.getElem_mem hi
  have := hp _ hm
  refine ⟨((p[i] : Nat) : Int), ⟨by omega, by omega⟩, ?_⟩
  rw [h.cellAt i (by omega), List.getElem?_map, List.getElem?_eq_getElem hi]
  rfl

end Go.Proofs.Yticgjigjlclefaa

/-
  Two small structs that other calls leave as they are.
-/
namespace Go.Proofs.Yticgjigjlclefaa
open Go.RowKit
theorem keep22 {B : Nat} {W u : World} {b0 b1 : Nat} {t0 t1 : TypeId} {x0_0 x0_1 x1_0 x1_1 : Value} (h0 : W.heap[b0]? = some (.cells #[x0_0, x0_1] t0 (0, 0))) (l0 : b0 < B) (h1 : W.heap[b1]? = some (.cells #[x1_0, x1_1] t1 (0, 0))) (l1 : b1 < B) (h : Below B W u) :
    u.cell? ⟨b0, 0, none⟩ = some x0_0 ∧ u.cell? ⟨b0, 1, none⟩ = some x0_1 ∧ u.cell? ⟨b1, 0, none⟩ = some x1_0 ∧ u.cell? ⟨b1, 1, none⟩ = some x1_1 ∧ Below B W u := by
  obtain ⟨a0, a1, _⟩ := keep2 h0 l0 h
  obtain ⟨c0, c1, _⟩ := keep2 h1 l1 h
  exact ⟨a0, a1, c0, c1, h⟩
end Go.Proofs.Yticgjigjlclefaa
