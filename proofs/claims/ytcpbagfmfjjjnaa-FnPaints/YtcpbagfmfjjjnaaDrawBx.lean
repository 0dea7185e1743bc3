/-
  The walk of DrawBoxes: two drawn boxes and a drawn point.
-/
import Derived.Test.YtcpbagfmfjjjnaaDrawM
import Derived.Test.YtcpbagfmfjjjnaaRowSet
import Derived.Deep.RegionHeld3
namespace Go.Proofs.Ytcpbagfmfjjjnaa
open Go.RowKit

theorem DS.drew {w u : World} {g B : Nat} {a : Option Addr} {len cap : Nat} (h : DS w u g B a len cap) : DS w u.drew g B a len cap := h.calls (Below.refl _ _).drew
theorem DS.below' {w u W : World} {g B : Nat} {a : Option Addr} {len cap : Nat} (h : DS w u g B a len cap) (hb : Below B W w) (hw : B ≤ w.heap.size) : Below B W u := hb.grown h.gb hw (fun k hk => by cases hk; exact h.lg)

end Go.Proofs.Ytcpbagfmfjjjnaa
