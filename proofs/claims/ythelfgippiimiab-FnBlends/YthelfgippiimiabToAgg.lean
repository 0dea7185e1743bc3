/-
  The laws' own words on structs: what is handed over field by field, and what is held field against field.
-/
import Derived.Test.YthelfgippiimiabAgg
namespace Go.Proofs.Ythelfgippiimiab
open Go.RowKit

end Go.Proofs.Ythelfgippiimiab
