/-
  The walk of the statement on a record of which the end is missing.
-/
import Derived.Test.YtnadbokhcmbcaaaDoorRecLengths
namespace Go.Proofs.YtnadbokhcmbcaaaDoor
open Go.RowKit
theorem Sd2.drawn {w W : World} {o0 o1 : Obj} (h : Sd2 w o0 o1 W) (k : Nat) : Sd2 w o0 o1 (W.drewN k) := ⟨h.1, h.2.1, below_drawn h.2.2 k⟩
/-- '(n%L + L) % L' as the walk writes it. -/
theorem wrap_mod (n : Int) (L : Nat) (h : 0 < L) (hL : L ≤ 70368744177664) : ∃ (t : Int) (m : Nat), n.tmod (L : Int) = t ∧ -(L : Int) < t ∧ t < (L : Int) ∧ (t + (L : Int)).tmod (L : Int) = (m : Int) ∧ m < L := by
  have h1 : (n.tmod (L : Int)).natAbs = n.natAbs % L := Int.natAbs_tmod n L
  have h2 := Nat.mod_lt n.natAbs h
  have h3 : 0 ≤ n.tmod (L : Int) + (L : Int) := by omega
  refine ⟨_, ((n.tmod (L : Int) + (L : Int)) % (L : Int)).toNat, rfl, by omega, by omega, ?_, ?_⟩
  · rw [Int.tmod_eq_emod_of_nonneg h3]
    have := Int.emod_nonneg (n.tmod (L : Int) + (L : Int)) (show (L : Int) ≠ 0 by omega)
    omega
  · have h4 := Int.emod_lt_of_pos (n.tmod (L : Int) + (L : Int)) (show (0 : Int) < (L : Int) by omega)
    have := Int.emod_nonneg (n.tmod (L : Int) + (L : Int)) (show (L : Int) ≠ 0 by omega)
    omega
end Go.Proofs.YtnadbokhcmbcaaaDoor
