/-
  The laws' own words on structs: what is handed over field by field, and what is held field against field.
-/
import Derived.Test.YtkhacppaemilgaaDoorAgg
namespace Go.Proofs.YtkhacppaemilgaaDoor
open Go.RowKit

theorem eqPoint_same (x y : Int) (w : World) :
    Calls Tryd.prog 56 #[.agg #[.int .i64 x, .int .i64 y], .agg #[.int .i64 x, .int .i64 y]] w fun r w' => r = .returned (.bool true) ∧ Below w.heap.size w w' := by
  go_enter Tryd.func56, Tryd.ntmps56
  go_wp2
  go_ret
  exact ⟨rfl, al2_below _ _ _⟩

end Go.Proofs.YtkhacppaemilgaaDoor
