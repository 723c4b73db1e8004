/-
  The reference's comparison of two rows of whole numbers.
-/
import Derived.Test.YtmkilbogdenljaaArr
import Derived.BigQuiet
set_option maxRecDepth 100000
namespace Go.Proofs.Ytmkilbogdenljaa
open Go.RowKit
end Go.Proofs.Ytmkilbogdenljaa
