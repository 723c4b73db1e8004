/-
  The walk of the reference's Encode, in format 2; both formats.
-/
import Derived.Test.YtnadbokhcmbcaaaDoorRecRefEncode
set_option maxRecDepth 100000
namespace Go.Proofs.YtnadbokhcmbcaaaDoor
open Go.RowKit
end Go.Proofs.YtnadbokhcmbcaaaDoor
