/-
  The walk of the statement on Check and Length of records.
-/
import Derived.Test.YtnadbokhcmbcaaaDoorRecAwake
import Derived.Test.YtnadbokhcmbcaaaDoorRecRefCheck
namespace Go.Proofs.YtnadbokhcmbcaaaDoor
open Go.RowKit
theorem cells4 {w : World} {g : Nat} {a b c d : Value} {t : TypeId} (h : w.heap[g]? = some (.cells #[a, b, c, d] t (0, 0))) : w.cell? ⟨g, 0, none⟩ = some a ∧ w.cell? ⟨g, 1, none⟩ = some b ∧ w.cell? ⟨g, 2, none⟩ = some c ∧ w.cell? ⟨g, 3, none⟩ = some d := four_cells h
end Go.Proofs.YtnadbokhcmbcaaaDoor
