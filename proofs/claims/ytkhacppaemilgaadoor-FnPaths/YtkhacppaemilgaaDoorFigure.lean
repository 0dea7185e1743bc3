/-
  The walk of l01Figure.
-/
import Derived.Test.YtkhacppaemilgaaDoorBase
import Derived.Test.YtkhacppaemilgaaDoorHexes
namespace Go.Proofs.YtkhacppaemilgaaDoor
open Go.RowKit

theorem l01Figure_any (x : Int) (h0 : 0 ≤ x) (h1 : x < 16) (w : World) :
    Calls Tryd.prog 71 #[.int .i64 x] w fun e w' => e = .returned (.int .u8 ((hexd x.toNat).toNat : Int)) ∧ w' = w := by
  obtain ⟨k, rfl⟩ := Int.eq_ofNat_of_zero_le h0
  rw [Int.toNat_natCast]
  by_cases h : k < 10
  · have H := hide (hexd_lo h)
    go_enter Tryd.func71, Tryd.ntmps71
    go_wp2
    go_ret
    exact ⟨ret_u8 (unhide H).symm, rfl⟩
  · have H := hide (hexd_hi h (by omega))
    go_enter Tryd.func71, Tryd.ntmps71
    go_wp2
    go_ret
    exact ⟨ret_u8 (unhide H).symm, rfl⟩
end Go.Proofs.YtkhacppaemilgaaDoor
