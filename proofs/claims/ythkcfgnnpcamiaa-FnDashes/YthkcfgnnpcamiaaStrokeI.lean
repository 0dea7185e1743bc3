/-
  The program's LengthOf, SideOf and QuadOf.
-/
import Derived.Test.YthkcfgnnpcamiaaStrokeQ
import Derived.Test.YthkcfgnnpcamiaaAllR
namespace Go.Proofs.Ythkcfgnnpcamiaa
open Go.RowKit
set_option linter.unusedVariables false

/-- Two points in a row. -/
def two (p q : Int × Int) (i : Nat) : Int × Int := if i = 0 then p else q
theorem two_arg {w : World} {x0 y0 x1 y1 : Int} {b : Nat} {t : TypeId} (h : w.heap[b]? = some (.cells #[.int .i64 x0, .int .i64 y0, .int .i64 x1, .int .i64 y1] t (0, 0))) :
    ∀ i, i < 2 → PtArg w (some ⟨b, 0, none⟩) i (two (x0, y0) (x1, y1) i) := by
  intro i hi
  obtain ⟨r0, r1, r2, r3⟩ := row4 h
  match i, hi with
  | 0, _ => exact ⟨_, _, rfl, r0, r1⟩
  | 1, _ => exact ⟨_, _, rfl, r2, r3⟩
theorem two_ok {x0 y0 x1 y1 : Int} : (pointOkB x0 y0 && pointOkB x1 y1) = true ↔ ∀ i, i < 2 → pointOkB (two (x0, y0) (x1, y1) i).1 (two (x0, y0) (x1, y1) i).2 = true := by
  rw [Bool.and_eq_true]
  constructor
  · rintro ⟨h0, h1⟩ i hi
    match i, hi with
    | 0, _ => exact h0
    | 1, _ => exact h1
  · intro h
    exact ⟨h 0 (by omega), h 1 (by omega)⟩

set_option maxHeartbeats 4000000 in
set_option maxRecDepth 100000 in
theorem implLengthOf_any (x0 y0 x1 y1 L : Int) (hL : IsLen x0 y0 x1 y1 L) (w : World) :
    Calls Try.prog 53 #[.agg #[.int .i64 x0, .int .i64 y0], .agg #[.int .i64 x1, .int .i64 y1]] w fun r w' => r = .returned (.int .i64 L) ∧ Below w.heap.size w w' := by
  unfold IsLen at hL
  obtain ⟨g, hg⟩ : ∃ g, g = (pointOkB x0 y0 && pointOkB x1 y1) := ⟨_, rfl⟩
  have EA := hide (fun W b h => implAllRight_any (two (x0, y0) (x1, y1)) (some ⟨b, 0, none⟩) 2 2 (by omega) W g (by rw [hg]; exact two_ok) (two_arg (t := 29) h))
  by_cases h : (pointOkB x0 y0 && pointOkB x1 y1) = true
  · rw [if_pos h] at hL
    rw [h] at hg
    subst hg
    rw [Bool.and_eq_true] at h
    obtain ⟨⟨a0, b0⟩, c0, d0⟩ := point_bd h.1
    obtain ⟨⟨a1, b1⟩, c1, d1⟩ := point_bd h.2
    have p1 := mul_bd (A := 16777216) (X := 16777216) (a := x1 - x0) (x := x1 - x0) (by omega) (by omega) (by omega) (by omega)
    have p2 := mul_bd (A := 16777216) (X := 16777216) (a := y1 - y0) (x := y1 - y0) (by omega) (by omega) (by omega) (by omega)
    have q1 := sq_nonneg (x1 - x0)
    have q2 := sq_nonneg (y1 - y0)
    have u1 : IntKind.i64.wrap (x1 - x0) = x1 - x0 := IntWalk.i64_in _ (by omega)
    have u2 : IntKind.i64.wrap (y1 - y0) = y1 - y0 := IntWalk.i64_in _ (by omega)
    have u3 : IntKind.i64.wrap ((x1 - x0) * (x1 - x0)) = (x1 - x0) * (x1 - x0) := IntWalk.i64_in _ (by omega)
    have u4 : IntKind.i64.wrap ((y1 - y0) * (y1 - y0)) = (y1 - y0) * (y1 - y0) := IntWalk.i64_in _ (by omega)
    have u5 : IntKind.i64.wrap ((x1 - x0) * (x1 - x0) + (y1 - y0) * (y1 - y0)) = (x1 - x0) * (x1 - x0) + (y1 - y0) * (y1 - y0) := IntWalk.i64_in _ (by omega)
    have ER := hide (implRootOf_any ((x1 - x0) * (x1 - x0) + (y1 - y0) * (y1 - y0)) (by omega) (by omega))
    replace hL := hide hL
    clear h p1 p2 q1 q2 a0 b0 c0 d0 a1 b1 c1 d1
    go_enter Try.func53, Try.ntmps53
    go_wp2_with fail
    obtain ⟨W, hW⟩ : ∃ W, W = ((w.alloc (.cells #[.int .i64 x0, .int .i64 y0] 29)).alloc (.cells #[.int .i64 x1, .int .i64 y1] 29)).alloc (.cells #[.int .i64 x0, .int .i64 y0, .int .i64 x1, .int .i64 y1] 29) := ⟨_, rfl⟩
    have A0 := hide (show W.heap[w.heap.size]? = some (.cells #[.int .i64 x0, .int .i64 y0] 29 (0, 0)) by rw [hW]; exact al3_0 _ _ _ _)
    have A1 := hide (show W.heap[w.heap.size + 1]? = some (.cells #[.int .i64 x1, .int .i64 y1] 29 (0, 0)) by rw [hW]; exact al3_1 _ _ _ _)
    have R := hide (show W.heap[w.heap.size + 1 + 1]? = some (.cells #[.int .i64 x0, .int .i64 y0, .int .i64 x1, .int .i64 y1] 29 (0, 0)) by rw [hW]; exact al3_2 _ _ _ _)
    have HB := hide (show Below w.heap.size w W by rw [hW]; exact al3_below _ _ _ _)
    rw [← hW]
    clear hW
    go_fit (unhide EA _ _ (unhide R))
    rintro r w1 ⟨rfl, hb⟩
    replace A0 := hide (row_next hb (unhide A0))
    replace A1 := hide (row_next hb (unhide A1))
    replace HB := hide (below_two (unhide HB) hb)
    clear hb R
    obtain ⟨r0, r1⟩ := row2 (unhide A0)
    obtain ⟨s0, s1⟩ := row2 (unhide A1)
    go_wp2_with fail
    go_quiet (fail)
    go_wp2_with fail
    go_fit (unhide ER _)
    rintro r w3 ⟨s, hs, rfl, hb⟩
    obtain rfl : s = L := hs.unique (unhide hL)
    replace hs := hide hs
    go_wp2_with fail
    go_ret
    exact ⟨rfl, below_two (below_drews (unhide HB) _) hb⟩
  · rw [if_neg h] at hL
    subst hL
    obtain rfl : g = false := by rw [hg]; simpa using h
    clear hg h
    go_enter Try.func53, Try.ntmps53
    go_wp2_with fail
    obtain ⟨W, hW⟩ : ∃ W, W = ((w.alloc (.cells #[.int .i64 x0, .int .i64 y0] 29)).alloc (.cells #[.int .i64 x1, .int .i64 y1] 29)).alloc (.cells #[.int .i64 x0, .int .i64 y0, .int .i64 x1, .int .i64 y1] 29) := ⟨_, rfl⟩
    have R := hide (show W.heap[w.heap.size + 1 + 1]? = some (.cells #[.int .i64 x0, .int .i64 y0, .int .i64 x1, .int .i64 y1] 29 (0, 0)) by rw [hW]; exact al3_2 _ _ _ _)
    have HB := hide (show Below w.heap.size w W by rw [hW]; exact al3_below _ _ _ _)
    rw [← hW]
    clear hW
    go_fit (unhide EA _ _ (unhide R))
    rintro r w1 ⟨rfl, hb⟩
    replace HB := hide (below_two (unhide HB) hb)
    clear hb R
    go_wp2_with fail
    go_ret
    exact ⟨rfl, unhide HB⟩

end Go.Proofs.Ythkcfgnnpcamiaa
