/-
  The walk of layer 6's Awake.
-/
import Derived.Test.YtjfgnojmdbfnmaaDoorFrRefDecode
import Derived.Lib.SlBytesConst
namespace Go.Proofs.YtjfgnojmdbfnmaaDoor
open Go.RowKit
theorem ab_err : Fr.err 2 7 80 2 = 0 := by decide
theorem ab_parts : (Fr.enc 2 7 80 [97, 98]).getD 0 0 = 2 ∧ (Rc.sub (Fr.enc 2 7 80 [97, 98]) 1 59).getD 1 0 = 98 ∧ (Rc.sub (Fr.enc 2 7 80 [97, 98]) 1 59).length = 59 := by
  rw [Fr.sub_enc _ _ _ _ (by decide)]
  exact ⟨rfl, rfl, rfl⟩
end Go.Proofs.YtjfgnojmdbfnmaaDoor
