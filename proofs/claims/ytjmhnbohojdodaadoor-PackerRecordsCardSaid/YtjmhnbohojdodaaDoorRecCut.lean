/-
  The walk of the statement on a record of which the end is missing.
-/
import Derived.Test.YtjmhnbohojdodaaDoorRecLengths
namespace Go.Proofs.YtjmhnbohojdodaaDoor
open Go.RowKit
theorem Sd2.drawn {w W : World} {o0 o1 : Obj} (h : Sd2 w o0 o1 W) (k : Nat) : Sd2 w o0 o1 (W.drewN k) := ⟨h.1, h.2.1, below_drawn h.2.2 k⟩
/-- The zero record is the zero record. -/
theorem zeq_any (w : World) : Calls Tryd.prog 27 #[.agg #[.int .i64 0, .slice none 0 0, .slice none 0 0, .int .i64 0], .agg #[.int .i64 0, .slice none 0 0, .slice none 0 0, .int .i64 0]] w fun e w' => e = .returned (.bool true) ∧ Below w.heap.size w w' := by
  have hnil : ∀ B, ([] : List Nat).length = 0 ∧ Bs w B none [] := fun B => ⟨rfl, fun k hk => absurd hk (by simp)⟩
  have h := receq_any 0 0 0 0 none none none none 0 0 0 0 0 0 0 0 0 0 [] [] [] [] w (Nat.zero_le _) (Nat.zero_le _) (hnil 0) (hnil 0) (hnil 0) (hnil 0) ⟨by omega, by omega, by omega, by omega⟩
  rwa [Rc.same_self] at h
/-- '(n%L + L) % L' as the walk writes it. -/
theorem wrap_mod (n : Int) (L : Nat) (h : 0 < L) (hL : L ≤ 70368744177664) : ∃ (t : Int) (m : Nat), n.tmod (L : Int) = t ∧ -(L : Int) < t ∧ t < (L : Int) ∧ (t + (L : Int)).tmod (L : Int) = (m : Int) ∧ m < L := by
  have h1 : (n.tmod (L : Int)).natAbs = n.natAbs % L := Int.natAbs_tmod n L
  have h2 := Nat.mod_lt n.natAbs h
  have h3 : 0 ≤ n.tmod (L : Int) + (L : Int) := by omega
  refine ⟨_, ((n.tmod (L : Int) + (L : Int)) % (L : Int)).toNat, rfl, by omega, by omega, ?_, ?_⟩
  · rw [Int.tmod_eq_emod_of_nonneg h3]
    have := Int.emod_nonneg (n.tmod (L : Int) + (L : Int)) (show (L : Int) ≠ 0 by omega)
    omega
  · have h4 := Int.emod_lt_of_pos (n.tmod (L : Int) + (L : Int)) (show (0 : Int) < (L : Int) by omega)
    have := Int.emod_nonneg (n.tmod (L : Int) + (L : Int)) (show (L : Int) ≠ 0 by omega)
    omega
end Go.Proofs.YtjmhnbohojdodaaDoor
