/-
  The walks of bytes.Equal and bytes.HasPrefix, said of plain lists of bytes.
-/
import Derived.Test.YtnadbokhcmbcaaaDoorBase
import Derived.Test.YtnadbokhcmbcaaaDoorRows
import Derived.Laws.BytesArg
import Derived.Laws.BytesString
import Derived.Lib.Bytes
import Derived.WalkKit
import Derived.WalkSpells
import Derived.WalkLawsBesides
import Derived.Lib.Hide
namespace Go.Proofs.YtnadbokhcmbcaaaDoor
open Go.RowKit

end Go.Proofs.YtnadbokhcmbcaaaDoor
