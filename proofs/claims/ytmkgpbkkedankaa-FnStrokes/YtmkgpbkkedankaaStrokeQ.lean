/-
  The specification's QuadOf.
-/
import Derived.Test.YtmkgpbkkedankaaStrokeS
import Derived.Test.YtmkgpbkkedankaaPtRow
namespace Go.Proofs.Ytmkgpbkkedankaa
open Go.RowKit
set_option linter.unusedVariables false

theorem rdiv_abs {n d m : Int} (hd : 1 ≤ d) (h1 : -m ≤ n) (h2 : n ≤ m) : -m ≤ rdivI n d ∧ rdivI n d ≤ m + 1 := by
  have hm : 0 ≤ m := by omega
  have e : m * 1 ≤ m * d := Int.mul_le_mul_of_nonneg_left hd hm
  have a1 : n / d ≤ m := Int.ediv_le_of_le_mul (by omega) (by omega)
  have a2 : -m ≤ n / d := Int.le_ediv_of_mul_le (by omega) (by rw [Int.neg_mul]; omega)
  unfold rdivI
  rw [if_neg (by omega)]
  split <;> omega
/-- The four corners of a line with a width. -/
def quadC (x0 y0 x1 y1 wd L : Int) : List (Int × Int) :=
  if L = 0 ∨ inB wd 1 2048 = false then []
  else [(x0 + (sideP x0 y0 x1 y1 wd L).1, y0 + (sideP x0 y0 x1 y1 wd L).2), (x1 + (sideP x0 y0 x1 y1 wd L).1, y1 + (sideP x0 y0 x1 y1 wd L).2), (x1 - (sideP x0 y0 x1 y1 wd L).1, y1 - (sideP x0 y0 x1 y1 wd L).2), (x0 - (sideP x0 y0 x1 y1 wd L).1, y0 - (sideP x0 y0 x1 y1 wd L).2)]
theorem side_bd {x0 y0 x1 y1 wd L : Int} (hp : pointOkB x0 y0 = true) (hq : pointOkB x1 y1 = true) (hl : 1 ≤ L) : (-34359738368 ≤ (sideP x0 y0 x1 y1 wd L).1 ∧ (sideP x0 y0 x1 y1 wd L).1 ≤ 34359738369) ∧ -34359738368 ≤ (sideP x0 y0 x1 y1 wd L).2 ∧ (sideP x0 y0 x1 y1 wd L).2 ≤ 34359738369 := by
  unfold sideP
  split
  · dsimp only; omega
  · rename_i h
    have hw : inB wd 1 2048 = true := by
      cases e : inB wd 1 2048 with
      | true => rfl
      | false => exact absurd (.inr e) h
    have hwd := inB_true.1 hw
    obtain ⟨⟨a0, b0⟩, c0, d0⟩ := point_bd hp
    obtain ⟨⟨a1, b1⟩, c1, d1⟩ := point_bd hq
    have m1 := mul_bd (A := 16777216) (X := 2048) (a := y0 - y1) (x := wd) (by omega) (by omega) (by omega) (by omega)
    have m2 := mul_bd (A := 16777216) (X := 2048) (a := x1 - x0) (x := wd) (by omega) (by omega) (by omega) (by omega)
    have r1 := rdiv_abs (d := 2 * L) (m := 34359738368) (by omega) (n := (y0 - y1) * wd) (by omega) (by omega)
    have r2 := rdiv_abs (d := 2 * L) (m := 34359738368) (by omega) (n := (x1 - x0) * wd) (by omega) (by omega)
    dsimp only
    exact ⟨⟨r1.1, by omega⟩, r2.1, by omega⟩

set_option maxHeartbeats 4000000 in
set_option maxRecDepth 100000 in
theorem specQuadOf_any (x0 y0 x1 y1 wd L : Int) (hL : IsLen x0 y0 x1 y1 L) (w : World) :
    Calls Try.prog 15 #[.agg #[.int .i64 x0, .int .i64 y0], .agg #[.int .i64 x1, .int .i64 y1], .int .i64 wd] w fun r w' => ∃ v, r = .returned v ∧ w'.ownsRow w.heap.size 25 2 v (quadC x0 y0 x1 y1 wd L).length (ptsV (quadC x0 y0 x1 y1 wd L)) ∧ Below w.heap.size w w' := by
  have EL := hide (specLengthOf_any x0 y0 x1 y1 L hL)
  have EW := hide (l01In_any wd 1 2048)
  have ES := hide (specSideOf_any x0 y0 x1 y1 wd L hL)
  by_cases h0 : L = 0
  · rw [show quadC x0 y0 x1 y1 wd L = [] from if_pos (.inl h0)]
    subst h0
    clear hL
    go_enter Try.func15, Try.ntmps15
    go_wp2_with fail
    obtain ⟨W, hW⟩ : ∃ W, W = (w.alloc (.cells #[.int .i64 x0, .int .i64 y0] 25)).alloc (.cells #[.int .i64 x1, .int .i64 y1] 25) := ⟨_, rfl⟩
    have A0 := hide (show W.heap[w.heap.size]? = some (.cells #[.int .i64 x0, .int .i64 y0] 25 (0, 0)) by rw [hW]; exact al2_0 _ _ _)
    have A1 := hide (show W.heap[w.heap.size + 1]? = some (.cells #[.int .i64 x1, .int .i64 y1] 25 (0, 0)) by rw [hW]; exact al2_1 _ _ _)
    have HB := hide (show Below w.heap.size w W by rw [hW]; exact al2_below _ _ _)
    rw [← hW]
    clear hW
    go_fit (unhide EL _)
    rintro r w1 ⟨rfl, hb⟩
    replace A0 := hide (row_next hb (unhide A0))
    replace A1 := hide (row_next hb (unhide A1))
    replace HB := hide (below_two (unhide HB) hb)
    clear hb
    go_wp2_with fail
    go_ret
    exact ⟨_, rfl, World.ownsRow_lit (base := w.heap.size) (e := 25) (size := 2) w1 #[] 0 (unhide HB).size (by decide) rfl, below_new _ (unhide HB) (Nat.le_refl _)⟩
  · obtain ⟨hp, hq, hl1, hl2⟩ := len_right hL h0
    have hz : (L == 0) = false := by simp [h0]
    have hsd := side_bd (wd := wd) hp hq hl1
    clear hL
    cases hw : inB wd 1 2048 with
    | false =>
      rw [show quadC x0 y0 x1 y1 wd L = [] from if_pos (.inr hw)]
      rw [hw] at EW
      replace h0 := hide h0
      clear hw hp hq hsd
      go_enter Try.func15, Try.ntmps15
      go_wp2_with fail
      obtain ⟨W, hW⟩ : ∃ W, W = (w.alloc (.cells #[.int .i64 x0, .int .i64 y0] 25)).alloc (.cells #[.int .i64 x1, .int .i64 y1] 25) := ⟨_, rfl⟩
      have A0 := hide (show W.heap[w.heap.size]? = some (.cells #[.int .i64 x0, .int .i64 y0] 25 (0, 0)) by rw [hW]; exact al2_0 _ _ _)
      have A1 := hide (show W.heap[w.heap.size + 1]? = some (.cells #[.int .i64 x1, .int .i64 y1] 25 (0, 0)) by rw [hW]; exact al2_1 _ _ _)
      have HB := hide (show Below w.heap.size w W by rw [hW]; exact al2_below _ _ _)
      rw [← hW]
      clear hW
      go_fit (unhide EL _)
      rintro r w1 ⟨rfl, hb⟩
      replace A0 := hide (row_next hb (unhide A0))
      replace A1 := hide (row_next hb (unhide A1))
      replace HB := hide (below_two (unhide HB) hb)
      clear hb
      go_wp2_with fail
      go_fit (unhide EW _)
      rintro r w2 ⟨rfl, rfl⟩
      go_wp2_with fail
      go_ret
      exact ⟨_, rfl, World.ownsRow_lit (base := w.heap.size) (e := 25) (size := 2) _ #[] 0 (unhide HB).size (by decide) rfl, below_new _ (unhide HB) (Nat.le_refl _)⟩
    | true =>
      have hQ : quadC x0 y0 x1 y1 wd L = [(x0 + (sideP x0 y0 x1 y1 wd L).1, y0 + (sideP x0 y0 x1 y1 wd L).2), (x1 + (sideP x0 y0 x1 y1 wd L).1, y1 + (sideP x0 y0 x1 y1 wd L).2), (x1 - (sideP x0 y0 x1 y1 wd L).1, y1 - (sideP x0 y0 x1 y1 wd L).2), (x0 - (sideP x0 y0 x1 y1 wd L).1, y0 - (sideP x0 y0 x1 y1 wd L).2)] := if_neg (by rintro (h | h); exact h0 h; rw [hw] at h; cases h)
      rw [hQ]
      rw [hw] at EW
      obtain ⟨⟨a0, b0⟩, c0, d0⟩ := point_bd hp
      obtain ⟨⟨a1, b1⟩, c1, d1⟩ := point_bd hq
      clear hQ
      generalize sideP x0 y0 x1 y1 wd L = sd at ES hsd ⊢
      obtain ⟨sx, sy⟩ := sd
      dsimp only at ES hsd ⊢
      have u1 : IntKind.i64.wrap (x0 + sx) = x0 + sx := IntWalk.i64_in _ (by omega)
      have u2 : IntKind.i64.wrap (y0 + sy) = y0 + sy := IntWalk.i64_in _ (by omega)
      have u3 : IntKind.i64.wrap (x1 + sx) = x1 + sx := IntWalk.i64_in _ (by omega)
      have u4 : IntKind.i64.wrap (y1 + sy) = y1 + sy := IntWalk.i64_in _ (by omega)
      have u5 : IntKind.i64.wrap (x1 - sx) = x1 - sx := IntWalk.i64_in _ (by omega)
      have u6 : IntKind.i64.wrap (y1 - sy) = y1 - sy := IntWalk.i64_in _ (by omega)
      have u7 : IntKind.i64.wrap (x0 - sx) = x0 - sx := IntWalk.i64_in _ (by omega)
      have u8 : IntKind.i64.wrap (y0 - sy) = y0 - sy := IntWalk.i64_in _ (by omega)
      replace h0 := hide h0
      clear hw hp hq hsd a0 b0 c0 d0 a1 b1 c1 d1 hl1 hl2
      go_enter Try.func15, Try.ntmps15
      go_wp2_with fail
      obtain ⟨W, hW⟩ : ∃ W, W = (w.alloc (.cells #[.int .i64 x0, .int .i64 y0] 25)).alloc (.cells #[.int .i64 x1, .int .i64 y1] 25) := ⟨_, rfl⟩
      have A0 := hide (show W.heap[w.heap.size]? = some (.cells #[.int .i64 x0, .int .i64 y0] 25 (0, 0)) by rw [hW]; exact al2_0 _ _ _)
      have A1 := hide (show W.heap[w.heap.size + 1]? = some (.cells #[.int .i64 x1, .int .i64 y1] 25 (0, 0)) by rw [hW]; exact al2_1 _ _ _)
      have HB := hide (show Below w.heap.size w W by rw [hW]; exact al2_below _ _ _)
      rw [← hW]
      clear hW
      go_fit (unhide EL _)
      rintro r w1 ⟨rfl, hb⟩
      replace A0 := hide (row_next hb (unhide A0))
      replace A1 := hide (row_next hb (unhide A1))
      replace HB := hide (below_two (unhide HB) hb)
      clear hb
      go_wp2_with fail
      go_fit (unhide EW _)
      rintro r w2 ⟨rfl, rfl⟩
      obtain ⟨q0, q1⟩ := row2 (unhide A0)
      obtain ⟨p0, p1⟩ := row2 (unhide A1)
      go_wp2_with fail
      clear q0 q1 p0 p1
      go_fit (unhide ES _)
      rintro r w3 ⟨rfl, hb⟩
      replace A0 := hide (row_next hb (unhide A0))
      replace A1 := hide (row_next hb (unhide A1))
      replace HB := hide (below_two (unhide HB) hb)
      clear hb
      dsimp only
      obtain ⟨q0, q1⟩ := row2 (old_row (.cells #[.int .i64 sx, .int .i64 sy] 25) (unhide A0))
      obtain ⟨p0, p1⟩ := row2 (old_row (.cells #[.int .i64 sx, .int .i64 sy] 25) (unhide A1))
      go_wp2_with fail
      go_ret
      refine ⟨_, rfl, ?_, below_new _ (below_new _ (unhide HB) (Nat.le_refl _)) (Nat.le_refl _)⟩
      have h9 := World.ownsRow_lit (base := w.heap.size) (e := 25) (size := 2) (w3.alloc (.cells #[.int .i64 sx, .int .i64 sy] 25)) #[.int .i64 (x0 + sx), .int .i64 (y0 + sy), .int .i64 (x1 + sx), .int .i64 (y1 + sy), .int .i64 (x1 - sx), .int .i64 (y1 - sy), .int .i64 (x0 - sx), .int .i64 (y0 - sy)] 4 (by rw [al1_size]; have := (unhide HB).size; omega) (by decide) rfl
      rw [al1_size] at h9
      exact h9
end Go.Proofs.Ytmkgpbkkedankaa
