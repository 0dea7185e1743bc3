/-
  What every walk of this seat leans on: the row of the type of bytes.
-/
import Derived.Test.YtngnleoggblinaaRows
import Derived.Test.YtngnleoggblinaaKit
import Derived.Test.YtngnleoggblinaaWords
import Derived.WalkSpells
namespace Go.Proofs.Ytngnleoggblinaa
open Go.RowKit

theorem Try.info5 : (Try.prog.info? 5).map (fun i => (i.zero, i.size, i.bytes)) = some (some (.int .u8 0), 1, 1) := by kernel_rfl

theorem ret_u8 {a b : Int} (h : a = b) : Ending.returned (.int .u8 a) = .returned (.int .u8 b) := by rw [h]
theorem ret_i64 {a b : Int} (h : a = b) : Ending.returned (.int .i64 a) = .returned (.int .i64 b) := by rw [h]
end Go.Proofs.Ytngnleoggblinaa
