/-
  The walk of the program's turn.
-/
import Derived.Test.YtaaeegahlpmhpabComposeS
import Derived.Test.YtaaeegahlpmhpabFixI
import Derived.Test.YtaaeegahlpmhpabAgg
import Derived.Deep.RegionHeld3
import Derived.Deep.DeepFit
namespace Go.Proofs.Ytaaeegahlpmhpab
open Go.RowKit

theorem cross_bd {a c x y : Int} (a1 : -1048576 ≤ a) (a2 : a ≤ 1048576) (c1 : -1048576 ≤ c) (c2 : c ≤ 1048576) (x1 : -8388608 ≤ x) (x2 : x ≤ 8388608) (y1 : -8388608 ≤ y) (y2 : y ≤ 8388608) : -17592186044417 ≤ crossI a x c y ∧ crossI a x c y ≤ 17592186044417 := by
  obtain ⟨ax1, ax2⟩ := mul_bd a1 a2 x1 x2
  obtain ⟨cy1, cy2⟩ := mul_bd c1 c2 y1 y2
  obtain ⟨h1, h2⟩ := rdiv_bd (n := a * x + c * y) (m := 17592186044416) (by omega) (by omega)
  exact ⟨h1, h2⟩

end Go.Proofs.Ytaaeegahlpmhpab
