/-
  The specification's LengthOf and SideOf.
-/
import Derived.Test.YthkcfgnnpcamiaaApplyS
import Derived.Test.YthkcfgnnpcamiaaFixS
import Derived.Test.YthkcfgnnpcamiaaRowSet
import Derived.Deep.RegionHeld3
import Derived.Deep.DeepCutAuto
import Derived.Deep.DeepFit
namespace Go.Proofs.Ythkcfgnnpcamiaa
open Go.RowKit
set_option linter.unusedVariables false

theorem root_nat : ∀ n : Nat, ∃ s : Nat, s * s ≤ n ∧ n < (s + 1) * (s + 1)
  | 0 => ⟨0, by omega, by omega⟩
  | n + 1 => by
    obtain ⟨s, h1, h2⟩ := root_nat n
    by_cases h : (s + 1) * (s + 1) ≤ n + 1
    · refine ⟨s + 1, h, ?_⟩
      have : (s + 1 + 1) * (s + 1 + 1) = (s + 1) * (s + 1) + 2 * (s + 1) + 1 := by
        rw [Nat.add_mul, Nat.mul_add]; omega
      omega
    · exact ⟨s, by omega, by omega⟩
theorem root_int {n : Int} (h : 0 ≤ n) (hn : n ≤ 9223372036854775807) : ∃ s : Int, IsRoot n s := by
  obtain ⟨k, rfl⟩ := Int.eq_ofNat_of_zero_le h
  obtain ⟨s, h1, h2⟩ := root_nat k
  refine ⟨s, ?_⟩
  have e1 : ((s * s : Nat) : Int) ≤ k := by exact_mod_cast h1
  have e2 : (k : Int) < (((s + 1) * (s + 1) : Nat) : Int) := by exact_mod_cast h2
  rw [Int.natCast_mul] at e1 e2
  have hs : s ≤ 3037000499 := by
    rcases Nat.lt_or_ge s 3037000500 with h3 | h3
    · omega
    · have h4 := Nat.mul_le_mul h3 h3
      omega
  refine ⟨by omega, by omega, e1, ?_⟩
  simpa using e2

/-- How long a line is: 0 where a point is not right. -/
def IsLen (x0 y0 x1 y1 L : Int) : Prop := if (pointOkB x0 y0 && pointOkB x1 y1) = true then IsRoot ((x1 - x0) * (x1 - x0) + (y1 - y0) * (y1 - y0)) L else L = 0
theorem sq_nonneg (a : Int) : 0 ≤ a * a := by
  rcases Int.le_total 0 a with h | h
  · exact Int.mul_nonneg h h
  · have := Int.mul_nonneg (show 0 ≤ -a by omega) (show 0 ≤ -a by omega); rw [Int.neg_mul_neg] at this; exact this
theorem len_is (x0 y0 x1 y1 : Int) : ∃ L, IsLen x0 y0 x1 y1 L := by
  unfold IsLen
  split
  · rename_i h
    rw [Bool.and_eq_true] at h
    obtain ⟨⟨a0, b0⟩, c0, d0⟩ := point_bd h.1
    obtain ⟨⟨a1, b1⟩, c1, d1⟩ := point_bd h.2
    have p1 := mul_bd (A := 16777216) (X := 16777216) (a := x1 - x0) (x := x1 - x0) (by omega) (by omega) (by omega) (by omega)
    have p2 := mul_bd (A := 16777216) (X := 16777216) (a := y1 - y0) (x := y1 - y0) (by omega) (by omega) (by omega) (by omega)
    exact root_int (by have := sq_nonneg (x1 - x0); have := sq_nonneg (y1 - y0); omega) (by omega)
  · exact ⟨0, rfl⟩

set_option maxHeartbeats 4000000 in
set_option maxRecDepth 100000 in
theorem specLengthOf_any (x0 y0 x1 y1 L : Int) (hL : IsLen x0 y0 x1 y1 L) (w : World) :
    Calls Try.prog 13 #[.agg #[.int .i64 x0, .int .i64 y0], .agg #[.int .i64 x1, .int .i64 y1]] w fun r w' => r = .returned (.int .i64 L) ∧ Below w.heap.size w w' := by
  have E0 := hide (specPointOk_any x0 y0)
  have E1 := hide (specPointOk_any x1 y1)
  unfold IsLen at hL
  by_cases h : (pointOkB x0 y0 && pointOkB x1 y1) = true
  · rw [if_pos h] at hL
    rw [Bool.and_eq_true] at h
    obtain ⟨⟨a0, b0⟩, c0, d0⟩ := point_bd h.1
    obtain ⟨⟨a1, b1⟩, c1, d1⟩ := point_bd h.2
    rw [h.1] at E0
    rw [h.2] at E1
    have p1 := mul_bd (A := 16777216) (X := 16777216) (a := x1 - x0) (x := x1 - x0) (by omega) (by omega) (by omega) (by omega)
    have p2 := mul_bd (A := 16777216) (X := 16777216) (a := y1 - y0) (x := y1 - y0) (by omega) (by omega) (by omega) (by omega)
    have q1 := sq_nonneg (x1 - x0)
    have q2 := sq_nonneg (y1 - y0)
    have u1 : IntKind.i64.wrap (x1 - x0) = x1 - x0 := IntWalk.i64_in _ (by omega)
    have u2 : IntKind.i64.wrap (y1 - y0) = y1 - y0 := IntWalk.i64_in _ (by omega)
    have u3 : IntKind.i64.wrap ((x1 - x0) * (x1 - x0)) = (x1 - x0) * (x1 - x0) := IntWalk.i64_in _ (by omega)
    have u4 : IntKind.i64.wrap ((y1 - y0) * (y1 - y0)) = (y1 - y0) * (y1 - y0) := IntWalk.i64_in _ (by omega)
    have u5 : IntKind.i64.wrap ((x1 - x0) * (x1 - x0) + (y1 - y0) * (y1 - y0)) = (x1 - x0) * (x1 - x0) + (y1 - y0) * (y1 - y0) := IntWalk.i64_in _ (by omega)
    have ER := hide (specRootOf_any ((x1 - x0) * (x1 - x0) + (y1 - y0) * (y1 - y0)) (by omega) (by omega))
    replace hL := hide hL
    clear h p1 p2 q1 q2 a0 b0 c0 d0 a1 b1 c1 d1
    go_enter Try.func13, Try.ntmps13
    go_wp2_with fail
    obtain ⟨W, hW⟩ : ∃ W, W = (w.alloc (.cells #[.int .i64 x0, .int .i64 y0] 29)).alloc (.cells #[.int .i64 x1, .int .i64 y1] 29) := ⟨_, rfl⟩
    have A0 := hide (show W.heap[w.heap.size]? = some (.cells #[.int .i64 x0, .int .i64 y0] 29 (0, 0)) by rw [hW]; exact al2_0 _ _ _)
    have A1 := hide (show W.heap[w.heap.size + 1]? = some (.cells #[.int .i64 x1, .int .i64 y1] 29 (0, 0)) by rw [hW]; exact al2_1 _ _ _)
    have HB := hide (show Below w.heap.size w W by rw [hW]; exact al2_below _ _ _)
    rw [← hW]
    clear hW
    go_fit (unhide E0 _)
    rintro r w1 ⟨rfl, hb⟩
    replace A0 := hide (row_next hb (unhide A0))
    replace A1 := hide (row_next hb (unhide A1))
    replace HB := hide (below_two (unhide HB) hb)
    clear hb
    obtain ⟨r0, r1⟩ := row2 (unhide A1)
    go_wp2_with fail
    clear r0 r1
    go_fit (unhide E1 _)
    rintro r w2 ⟨rfl, hb⟩
    replace A0 := hide (row_next hb (unhide A0))
    replace A1 := hide (row_next hb (unhide A1))
    replace HB := hide (below_two (unhide HB) hb)
    clear hb
    obtain ⟨r0, r1⟩ := row2 (unhide A0)
    obtain ⟨s0, s1⟩ := row2 (unhide A1)
    go_wp2_with fail
    go_fit (unhide ER _)
    rintro r w3 ⟨s, hs, rfl, rfl⟩
    obtain rfl : s = L := hs.unique (unhide hL)
    replace hs := hide hs
    go_wp2_with fail
    go_ret
    exact ⟨rfl, unhide HB⟩
  · rw [if_neg h] at hL
    subst hL
    generalize pointOkB x0 y0 = g0 at E0 h
    generalize pointOkB x1 y1 = g1 at E1 h
    go_enter Try.func13, Try.ntmps13
    go_wp2_with fail
    obtain ⟨W, hW⟩ : ∃ W, W = (w.alloc (.cells #[.int .i64 x0, .int .i64 y0] 29)).alloc (.cells #[.int .i64 x1, .int .i64 y1] 29) := ⟨_, rfl⟩
    have A1 := hide (show W.heap[w.heap.size + 1]? = some (.cells #[.int .i64 x1, .int .i64 y1] 29 (0, 0)) by rw [hW]; exact al2_1 _ _ _)
    have HB := hide (show Below w.heap.size w W by rw [hW]; exact al2_below _ _ _)
    rw [← hW]
    clear hW
    go_fit (unhide E0 _)
    rintro r w1 ⟨rfl, hb⟩
    replace A1 := hide (row_next hb (unhide A1))
    replace HB := hide (below_two (unhide HB) hb)
    clear hb
    cases g0
    · go_wp2_with fail
      go_ret
      exact ⟨rfl, unhide HB⟩
    · obtain rfl : g1 = false := by simpa using h
      obtain ⟨r0, r1⟩ := row2 (unhide A1)
      go_wp2_with fail
      go_fit (unhide E1 _)
      rintro r w2 ⟨rfl, hb⟩
      replace HB := hide (below_two (unhide HB) hb)
      clear hb
      go_wp2_with fail
      go_ret
      exact ⟨rfl, unhide HB⟩
/-- How far a line's left edge lies from it. -/
def sideP (x0 y0 x1 y1 wd L : Int) : Int × Int := if L = 0 ∨ inB wd 1 2048 = false then (0, 0) else (rdivI ((y0 - y1) * wd) (2 * L), rdivI ((x1 - x0) * wd) (2 * L))
theorem len_right {x0 y0 x1 y1 L : Int} (h : IsLen x0 y0 x1 y1 L) (hL : L ≠ 0) : pointOkB x0 y0 = true ∧ pointOkB x1 y1 = true ∧ 1 ≤ L ∧ L ≤ 3037000499 := by
  unfold IsLen at h
  by_cases hp : (pointOkB x0 y0 && pointOkB x1 y1) = true
  · rw [if_pos hp] at h
    rw [Bool.and_eq_true] at hp
    have := h.pos
    have := h.le
    exact ⟨hp.1, hp.2, by omega, by omega⟩
  · rw [if_neg hp] at h; exact absurd h hL

end Go.Proofs.Ythkcfgnnpcamiaa
