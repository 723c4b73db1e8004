/-
  The walks of the laws AdmitRule and AdmitCheck.
-/
import Derived.Test.YtnadbokhcmbcaaaDoorAdAwake
set_option maxRecDepth 100000
namespace Go.Proofs.YtnadbokhcmbcaaaDoor
open Go.RowKit
theorem rq8 {w W : World} {g : Nat} {a0 a1 a2 a3 a4 a5 a6 a7 : Value} {t : TypeId} (h : Sd w g (.cells #[a0, a1, a2, a3, a4, a5, a6, a7] t (0, 0)) W) :
    W.cell? ⟨g, 0, none⟩ = some a0 ∧ W.cell? ⟨g, 1, none⟩ = some a1 ∧ W.cell? ⟨g, 2, none⟩ = some a2 ∧ W.cell? ⟨g, 3, none⟩ = some a3 ∧ W.cell? ⟨g, 4, none⟩ = some a4 ∧ W.cell? ⟨g, 5, none⟩ = some a5 ∧ W.cell? ⟨g, 6, none⟩ = some a6 ∧ W.cell? ⟨g, 7, none⟩ = some a7 := by
  have h := h.1
  refine ⟨?_, ?_, ?_, ?_, ?_, ?_, ?_, ?_⟩
  · rw [cell_of_row W g 0 _ t (0, 0) h]; rfl
  · rw [cell_of_row W g 1 _ t (0, 0) h]; rfl
  · rw [cell_of_row W g 2 _ t (0, 0) h]; rfl
  · rw [cell_of_row W g 3 _ t (0, 0) h]; rfl
  · rw [cell_of_row W g 4 _ t (0, 0) h]; rfl
  · rw [cell_of_row W g 5 _ t (0, 0) h]; rfl
  · rw [cell_of_row W g 6 _ t (0, 0) h]; rfl
  · rw [cell_of_row W g 7 _ t (0, 0) h]; rfl
theorem sd_drew {w w1 : World} {r : Nat} {o : Obj} (h : Sd w r o w1) : Sd w r o w1.drew := ⟨h.1, below_drawn h.2 1⟩
end Go.Proofs.YtnadbokhcmbcaaaDoor
