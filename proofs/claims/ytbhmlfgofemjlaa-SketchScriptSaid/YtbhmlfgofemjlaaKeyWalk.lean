/-
  The walks of keyhash and of its definition: what each call returns, said of plain vectors and numbers; none of them changes memory.
-/
import Derived.Test.YtbhmlfgofemjlaaRows
import Derived.Test.YtbhmlfgofemjlaaBase
import Derived.Test.YtbhmlfgofemjlaaKeyMath
import Derived.WalkKit
import Derived.WalkSpells
import Derived.WalkLawsBesides
import Derived.Outline
import Derived.Lib.Hide
namespace Go.Proofs.Ytbhmlfgofemjlaa
open Go.RowKit
end Go.Proofs.Ytbhmlfgofemjlaa
