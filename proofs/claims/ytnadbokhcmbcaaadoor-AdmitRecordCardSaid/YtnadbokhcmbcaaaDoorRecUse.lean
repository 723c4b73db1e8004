/-
  Decode as one contract; the comparison of two records; Short and Awake of the statements.
-/
import Derived.Test.YtnadbokhcmbcaaaDoorRecDecode
import Derived.Test.YtnadbokhcmbcaaaDoorBase
import Derived.Laws.Rows
import Derived.ArgAppend
import Derived.Laws.OwnMore
import Derived.BigRegion
import Derived.RegionTactic
import Derived.Lib.SlBytesConst
namespace Go.Proofs.YtnadbokhcmbcaaaDoor
open Go.RowKit

theorem rec_len (v : Int) (l : List Nat) (h : Fits v l) : Rc.len (Rc.rec v l) = 16 + Rc.kl v l + Rc.vl v l := by
  unfold Rc.len Rc.rec
  simp only
  rw [Rc.sub_length _ _ _ (by have := h.2; omega), Rc.sub_length _ _ _ (by have := h.2; omega)]
/-- Equal records have equal parts. -/
theorem rec_parts {v : Int} {l : List Nat} {r : Rc.Rec} (h : Rc.rec v l = r) : (Rc.kd v l : Int) = r.kind ∧ Rc.sub l 16 (Rc.kl v l) = r.key ∧ Rc.sub l (16 + Rc.kl v l) (Rc.vl v l) = r.val ∧ (Rc.xp v l : Int) = r.exp := by
  subst h
  exact ⟨rfl, rfl, rfl, rfl⟩
end Go.Proofs.YtnadbokhcmbcaaaDoor
