/-
  The program's laid colours, thinned and faded ones: closures over closures. (By blendi.py.)
-/
import Derived.Test.YtngnleoggblinaaBlendP
import Derived.Test.YtngnleoggblinaaPaintI
import Derived.Test.YtngnleoggblinaaFixI
import Derived.Laws.EntriesVeiled
import Derived.Deep.DeepFit
import Derived.Deep.RegionHeld3
import Derived.Deep.DeepCutAuto
namespace Go.Proofs.Ytngnleoggblinaa
open Go.RowKit
set_option linter.unusedVariables false

set_option maxHeartbeats 4000000 in
set_option maxRecDepth 100000 in
theorem implLaidOk_any (r g b a : Int) (w : World) :
    Calls Try.prog 22 #[.agg #[.int .i64 r, .int .i64 g, .int .i64 b, .int .i64 a]] w fun e w' => e = .returned (.bool (laidOkB ⟨r, g, b, a⟩)) ∧ Below w.heap.size w w' := by
  have E := hide (implColorOk_any r g b a)
  have H : Hid ((colorOkB ⟨r, g, b, a⟩ && (decide (r ≤ a) && (decide (g ≤ a) && decide (b ≤ a)))) = laidOkB ⟨r, g, b, a⟩) := rfl
  generalize colorOkB ⟨r, g, b, a⟩ = X at E H
  generalize laidOkB ⟨r, g, b, a⟩ = Y at H ⊢
  go_enter Try.func22, Try.ntmps22
  go_upto_region 1 with fail
  have R := hide (new_row w (.cells #[.int .i64 r, .int .i64 g, .int .i64 b, .int .i64 a] 27))
  have HB := hide (al1_below w (.cells #[.int .i64 r, .int .i64 g, .int .i64 b, .int .i64 a] 27))
  generalize w.alloc (.cells #[.int .i64 r, .int .i64 g, .int .i64 b, .int .i64 a] 27) = W at R HB ⊢
  generalize w.heap.size = b1 at R ⊢
  obtain ⟨q0, q1, q2, q3⟩ := row4 (unhide R)
  go_wp2_with fail
  go_fit (unhide E _)
  rintro e u2 ⟨rfl, hb⟩
  replace R := hide (row_next hb (unhide R))
  replace HB := hide (below_two (unhide HB) hb)
  clear hb q0 q1 q2 q3
  obtain ⟨q0, q1, q2, q3⟩ := row4 (unhide R)
  cases X with
  | false =>
    go_wp2_with fail
    go_ret
    exact ⟨ret_bool (unhide H), unhide HB⟩
  | true =>
  cases d0 : decide (r ≤ a) with
  | false =>
    rw [d0] at H
    go_wp2_with fail
    go_ret
    exact ⟨ret_bool (unhide H), unhide HB⟩
  | true =>
  rw [d0] at H
  cases d1 : decide (g ≤ a) with
  | false =>
    rw [d1] at H
    go_wp2_with fail
    go_ret
    exact ⟨ret_bool (unhide H), unhide HB⟩
  | true =>
  rw [d1] at H
  cases d2 : decide (b ≤ a) with
  | false =>
    rw [d2] at H
    go_wp2_with fail
    go_ret
    exact ⟨ret_bool (unhide H), unhide HB⟩
  | true =>
    rw [d2] at H
    go_wp2_with fail
    go_ret
    exact ⟨ret_bool (unhide H), unhide HB⟩

theorem cell_lone {w1 : World} {b : Nat} {x : Value} {t : TypeId} (h : w1.heap[b]? = some (.cells #[x] t (0, 0))) : w1.cell? ⟨b, 0, none⟩ = some x := by simp [World.cell?, h]

end Go.Proofs.Ytngnleoggblinaa
