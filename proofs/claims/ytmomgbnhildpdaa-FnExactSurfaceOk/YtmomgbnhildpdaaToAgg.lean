/-
  The laws' own words on structs: what is handed over field by field, and what is held field against field.
-/
import Derived.Test.YtmomgbnhildpdaaAgg
namespace Go.Proofs.Ytmomgbnhildpdaa
open Go.RowKit

end Go.Proofs.Ytmomgbnhildpdaa
