/-
  The law of NeedOf.
-/
import Derived.Test.YtfbgofhlbbjepaaPathI
namespace Go.Proofs.Ytfbgofhlbbjepaa
open Go.RowKit

theorem fnExactNeedOf_walk (a0 : Int) (_ : (Lit.int .i64 a0).wf = true) (w : World) :
    Calls Try.prog 4 #[.int .i64 a0] w fun r w' => r = .returned (.bool true) ∧ Below w.heap.size w w' := by
  have S := hide (specNeedOf_any a0)
  have I := hide (implNeedOf_any a0)
  generalize needI a0 = z at S I
  go_enter Try.func4, Try.ntmps4
  go_wp2_with fail
  go_fit (unhide S _)
  rintro r w1 ⟨rfl, h1⟩
  go_wp2_with fail
  go_fit (unhide I _)
  rintro r w2 ⟨rfl, h2⟩
  go_wp2_with fail
  go_ret
  exact ⟨rfl, below_two h1 h2⟩
end Go.Proofs.Ytfbgofhlbbjepaa
