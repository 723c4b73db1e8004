/-
  The blocks of a set, and those made between two worlds.
-/
import Derived.Test.YtkhmimdigdjajaaKept
set_option maxRecDepth 100000
namespace Go.Proofs.Ytkhmimdigdjajaa
open Go.RowKit
/-- The blocks of S, and those made between two worlds. -/
def Snc (S : Nat → Prop) (w w' : World) (k : Nat) : Prop := S k ∨ (w.heap.size ≤ k ∧ k < w'.heap.size)
theorem snc_left {S : Nat → Prop} {w w' : World} {k : Nat} (h : S k) : Snc S w w' k := .inl h
theorem Snc.up {S : Nat → Prop} {w w1 w2 : World} {k : Nat} (h1 : w.heap.size ≤ w1.heap.size) (h2 : w1.heap.size ≤ w2.heap.size) (h : Snc (Snc S w w1) w1 w2 k) : Snc S w w2 k := by
  rcases h with (h | h) | h
  · exact .inl h
  · exact .inr ⟨h.1, Nat.lt_of_lt_of_le h.2 h2⟩
  · exact .inr ⟨Nat.le_trans h1 h.1, h.2⟩
theorem Kept.snc {S : Nat → Prop} {w w1 w2 : World} (h : Kept S w w1) (k : Kept (Snc S w w1) w1 w2) : Kept S w w2 := h.trans' k fun i hi hlt => hi.elim id fun hi => by omega
end Go.Proofs.Ytkhmimdigdjajaa
