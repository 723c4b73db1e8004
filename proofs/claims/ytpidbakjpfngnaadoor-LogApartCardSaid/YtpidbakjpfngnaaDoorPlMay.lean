/-
  The walks of plan.mayChange and plan.fits, and of the reference's may.
-/
import Derived.Test.YtpidbakjpfngnaaDoorPlMath
namespace Go.Proofs.YtpidbakjpfngnaaDoor
open Go.RowKit
/-- What fits asks of the numbers. -/
def Mg.room (l : Sb.L) (sec : Int) : Prop := Sb.form l ∧ 74 + l.reg * l.rs ≤ sec
instance (l : Sb.L) (sec : Int) : Decidable (Mg.room l sec) := by unfold Mg.room; infer_instance
theorem room_small {c d : Int} (h : 2 ≤ c ∧ c ≤ 2048 ∧ 4 ≤ d ∧ d ≤ 16) : 0 ≤ d * c ∧ d * c ≤ 32768 := by
  have h1 : d * c ≤ 16 * c := Int.mul_le_mul_of_nonneg_right h.2.2.2 (by omega)
  have h2 : 0 ≤ d * c := Int.mul_nonneg (by omega) (by omega)
  omega
theorem form_small {a b c d : Int} (h : Sb.form ⟨a, b, c, d⟩) : 0 ≤ d * c ∧ d * c ≤ 32768 := by
  obtain ⟨-, -, h3, h4⟩ := h
  have := Sb.pw_le h3
  exact room_small ⟨this.1, this.2, h4.1, h4.2⟩
end Go.Proofs.YtpidbakjpfngnaaDoor
