/-
  The laws' own words on structs: what is handed over field by field, and what is held field against field.
-/
import Derived.Test.YtngnleoggblinaaAgg
namespace Go.Proofs.Ytngnleoggblinaa
open Go.RowKit

end Go.Proofs.Ytngnleoggblinaa
