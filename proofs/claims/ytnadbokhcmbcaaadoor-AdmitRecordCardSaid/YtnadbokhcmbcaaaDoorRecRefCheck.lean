/-
  The walk of the reference's Check: the same first error.
-/
import Derived.Test.YtnadbokhcmbcaaaDoorRecWords
namespace Go.Proofs.YtnadbokhcmbcaaaDoor
open Go.RowKit
end Go.Proofs.YtnadbokhcmbcaaaDoor
