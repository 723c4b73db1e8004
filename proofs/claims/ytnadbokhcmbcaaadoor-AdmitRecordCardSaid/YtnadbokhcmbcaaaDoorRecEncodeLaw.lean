/-
  The walk of the statement on Encode.
-/
import Derived.Test.YtnadbokhcmbcaaaDoorRecRefEncode2
set_option maxRecDepth 100000
namespace Go.Proofs.YtnadbokhcmbcaaaDoor
open Go.RowKit
end Go.Proofs.YtnadbokhcmbcaaaDoor
