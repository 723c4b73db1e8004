/-
  The walk of the statement on Check and Length of records.
-/
import Derived.Test.YtciaiaacboodeaaDoorRecAwake
import Derived.Test.YtciaiaacboodeaaDoorRecRefCheck
namespace Go.Proofs.YtciaiaacboodeaaDoor
open Go.RowKit
/-- A block stays as it is, and so does all that was there at first. -/
def Sd (w : World) (r : Nat) (o : Obj) (W : World) : Prop := W.heap[r]? = some o ∧ Below w.heap.size w W
theorem Sd.next {w W W' W'' : World} {r : Nat} {o : Obj} (h : Sd w r o W) (k : Below W'.heap.size W' W'') (e1 : W'.heap = W.heap) (e2 : W'.os = W.os) (e3 : W'.tape = W.tape) (e4 : W'.output = W.output) : Sd w r o W'' := by
  have hlt := (Array.getElem?_eq_some_iff.1 h.1).1
  refine ⟨(k.block r (by rw [e1]; exact hlt)).trans (by rw [e1]; exact h.1), k.os.trans (e2.trans h.2.os), k.tape.trans (e3.trans h.2.tape), k.output.trans (e4.trans h.2.output), ?_, fun b hb => ?_⟩
  · have h1 := k.size
    rw [e1] at h1
    exact Nat.le_trans h.2.size h1
  · have h1 := h.2.size
    rw [k.block b (by rw [e1]; omega), e1]
    exact h.2.block b hb
theorem cells4 {w : World} {g : Nat} {a b c d : Value} {t : TypeId} (h : w.heap[g]? = some (.cells #[a, b, c, d] t (0, 0))) : w.cell? ⟨g, 0, none⟩ = some a ∧ w.cell? ⟨g, 1, none⟩ = some b ∧ w.cell? ⟨g, 2, none⟩ = some c ∧ w.cell? ⟨g, 3, none⟩ = some d := four_cells h
/-- A record's variable, overwritten. -/
theorem sd_stored {w w1 : World} {r : Nat} {a b c d a' b' c' d' : Value} {t : TypeId} (h : Sd w r (.cells #[a, b, c, d] t (0, 0)) w1) (hr : w.heap.size ≤ r) : Sd w r (.cells #[a', b', c', d'] t (0, 0)) ((((w1.setCell ⟨r, 0, none⟩ a').setCell ⟨r, 1, none⟩ b').setCell ⟨r, 2, none⟩ c').setCell ⟨r, 3, none⟩ d') :=
  ⟨stored h.1, h.2.trans (below_of_grown (stored_grown _ _ _ _ _ _) hr h.2.size)⟩
end Go.Proofs.YtciaiaacboodeaaDoor
