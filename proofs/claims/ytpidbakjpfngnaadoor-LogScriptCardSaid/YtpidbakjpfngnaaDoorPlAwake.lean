/-
  The walk of layer 10's Awake.
-/
import Derived.Test.YtpidbakjpfngnaaDoorPlResize
import Derived.OwnWalk
namespace Go.Proofs.YtpidbakjpfngnaaDoor
open Go.RowKit
/-- A block stays what it is. -/
theorem box_next {w w1 w2 : World} {g : Nat} {o : Obj} (h : w.heap[g]? = some o) (k : Below w1.heap.size w1 w2) (e : w1.heap = w.heap) : w2.heap[g]? = some o := by
  have hlt := (Array.getElem?_eq_some_iff.1 h).1
  exact (k.block g (by rw [e]; exact hlt)).trans (by rw [e]; exact h)
theorem box_old {w : World} {g : Nat} {o o' : Obj} (h : w.heap[g]? = some o) : (w.alloc o').heap[g]? = some o := (heap_alloc_old _ _ (Array.getElem?_eq_some_iff.1 h).1).trans h
end Go.Proofs.YtpidbakjpfngnaaDoor
