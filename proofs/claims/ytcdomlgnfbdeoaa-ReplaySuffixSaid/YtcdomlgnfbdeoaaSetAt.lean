/-
  A cell stored: the row it lies in, other blocks; a box of one cell.
-/
import Derived.Test.YtcdomlgnfbdeoaaKept
set_option maxRecDepth 100000
namespace Go.Proofs.Ytcdomlgnfbdeoaa
open Go.RowKit
theorem set_at {w : World} {d : Nat} {cs : List Value} {t : TypeId} (h : w.heap[d]? = some (.cells cs.toArray t (0, 0))) (o : Nat) (v : Value) : (w.setCell ⟨d, o, none⟩ v).heap[d]? = some (.cells (cs.set o v).toArray t (0, 0)) := by
  simp [World.setCell, Array.getElem?_modify, h]
theorem set_past {w : World} {d b : Nat} {x : Option Obj} (hb : w.heap[b]? = x) (hne : b ≠ d) (o : Nat) (v : Value) : (w.setCell ⟨d, o, none⟩ v).heap[b]? = x :=
  (Below.heap_setCell w ⟨d, o, none⟩ v b hne).trans hb
theorem one_cell_of {w : World} {m : Nat} {v : Value} {t : TypeId} (h : w.heap[m]? = some (.cells #[v] t (0, 0))) : w.cell? ⟨m, 0, none⟩ = some v := by
  rw [cell_of_row _ _ 0 _ _ _ h]; rfl
theorem one_set {w : World} {m : Nat} {v : Value} {t : TypeId} (h : w.heap[m]? = some (.cells #[v] t (0, 0))) (u : Value) : (w.setCell ⟨m, 0, none⟩ u).heap[m]? = some (.cells #[u] t (0, 0)) :=
  set_at (cs := [v]) h 0 u
end Go.Proofs.Ytcdomlgnfbdeoaa
