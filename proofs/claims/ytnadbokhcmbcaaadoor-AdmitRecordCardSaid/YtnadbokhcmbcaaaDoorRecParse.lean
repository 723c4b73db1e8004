/-
  The walks of record's parseHead and parse: what a record at the beginning of the bytes would be.
-/
import Derived.Test.YtnadbokhcmbcaaaDoorRecConcat
import Derived.Laws.ResultCell
namespace Go.Proofs.YtnadbokhcmbcaaaDoor
open Go.RowKit

theorem num_small (l : List Nat) (h : ∀ x ∈ l, x < 256) (hl : l.length ≤ 7) : Wire.num l < 72057594037927936 := by
  have h1 := Wire.num_lt l h
  have h2 := Wire.pow_le7 l.length hl
  omega
/-- One number more: what is read, and what is left. -/
def Step (l : List Nat) (n : Nat) (q : Nat) (l' : List Nat) (m : Nat) : Prop := q = Wire.num (l.take n) ∧ l' = l.drop n ∧ n ≤ l.length ∧ l'.length = m
theorem step_at (l : List Nat) (n m : Nat) (h : l.length = n + m) : ∃ q l', Hid (Step l n q l' m) := ⟨_, _, rfl, rfl, by omega, by rw [List.length_drop]; omega⟩
theorem num_at (l : List Nat) (i : Nat) (h : i < l.length) : Wire.num ((l.drop i).take 1) = l.getD i 0 := by
  have e : (l.drop i).take 1 = [l.getD i 0] := by
    rw [List.take_one, List.head?_drop, List.getD_eq_getElem?_getD, List.getElem?_eq_getElem h]; rfl
  rw [e]
  simp [Wire.num]
theorem stored4 {w : World} {r : Nat} {a b c d a' b' c' d' x : Value} {t : TypeId} (h : w.heap[r]? = some (.cells #[a, b, c, d] t (0, 0))) :
    (((((w.setCell ⟨r, 3, none⟩ x).setCell ⟨r, 0, none⟩ a').setCell ⟨r, 1, none⟩ b').setCell ⟨r, 2, none⟩ c').setCell ⟨r, 3, none⟩ d').heap[r]? = some (.cells #[a', b', c', d'] t (0, 0)) := by
  simp [World.setCell, Array.getElem?_modify, h]
theorem stored4_grown (w : World) (r : Nat) (a' b' c' d' x : Value) :
    w.grownBy (((((w.setCell ⟨r, 3, none⟩ x).setCell ⟨r, 0, none⟩ a').setCell ⟨r, 1, none⟩ b').setCell ⟨r, 2, none⟩ c').setCell ⟨r, 3, none⟩ d') (some r) :=
  grown_trans' (grown_trans' (grown_trans' (grown_trans' (grown_set _ _ _ _) (grown_set _ _ _ _)) (grown_set _ _ _ _)) (grown_set _ _ _ _)) (grown_set _ _ _ _)
end Go.Proofs.YtnadbokhcmbcaaaDoor
