/-
  Words on the state while a header or a superblock is read.
-/
import Derived.Test.YtjfgnojmdbfnmaaDoorHdWords
namespace Go.Proofs.YtjfgnojmdbfnmaaDoor
open Go.RowKit
theorem Sd.lt {w w1 : World} {r : Nat} {o : Obj} (h : Sd w r o w1) : r < w1.heap.size := (Array.getElem?_eq_some_iff.1 h.1).1
/-- While a header is read: the reader, the variable that holds it, all that was there before. -/
def Ps (w : World) (lo g gi : Nat) (bad : Bool) (l : List Nat) (W : World) : Prop :=
  Rdr W lo g bad l ∧ W.heap[gi]? = some (.cells #[.pointer (some ⟨g, 0, none⟩)] 77 (0, 0)) ∧ Below w.heap.size w W ∧ w.heap.size ≤ g ∧ g < gi
section
variable {w W W' : World} {lo g gi : Nat} {bad bad' : Bool} {l l' : List Nat}
theorem Ps.next (h : Ps w lo g gi bad l W) (hr : Rdr W' lo g bad' l') (hg : W.grownBy W' (some g)) : Ps w lo g gi bad' l' W' :=
  ⟨hr, (hg.block gi (Array.getElem?_eq_some_iff.1 h.2.1).1 (fun e => by injection e with e; have := h.2.2.2.2; omega)).trans h.2.1, h.2.2.1.trans (below_of_grown hg h.2.2.2.1 h.2.2.1.size), h.2.2.2⟩
theorem Ps.cell (h : Ps w lo g gi bad l W) : W.cell? ⟨gi, 0, none⟩ = some (.pointer (some ⟨g, 0, none⟩)) := by
  rw [cell_of_row W gi 0 _ _ (0, 0) h.2.1]; rfl
theorem Ps.alloc (h : Ps w lo g gi bad l W) (o : Obj) : Ps w lo g gi bad l (W.alloc o) :=
  ⟨h.1.below ((Below.refl _ W).alloc (Nat.le_refl _) o) h.1.lt, (heap_alloc_old _ _ (Array.getElem?_eq_some_iff.1 h.2.1).1).trans h.2.1, h.2.2.1.alloc h.2.2.1.size o, h.2.2.2⟩
theorem ps_first {w1 : World} (hr : Rdr w1 w.heap.size g false l) (hb : Below w.heap.size w w1) : Ps w w.heap.size g w1.heap.size false l (w1.alloc (.cells #[.pointer (some ⟨g, 0, none⟩)] 77)) :=
  ⟨hr.below ((Below.refl _ w1).alloc (Nat.le_refl _) _) hr.lt, heap_alloc_new w1 _, hb.alloc hb.size _, hr.lo_le, hr.lt⟩
end
theorem num6 (l : List Nat) (k : Nat) (hk : k ≤ 6) (h : ∀ x ∈ l, x < 256) : Wire.num (l.take k) < 281474976710656 := by
  have h1 := Wire.num_lt (l.take k) (fun x hx => h x (List.mem_of_mem_take hx))
  have h2 : (256 : Nat) ^ (l.take k).length ≤ 256 ^ 6 := Nat.pow_le_pow_right (by decide) (by rw [List.length_take]; omega)
  have h3 : (256 : Nat) ^ 6 = 281474976710656 := rfl
  omega
end Go.Proofs.YtjfgnojmdbfnmaaDoor
