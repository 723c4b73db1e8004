/-
  Sketches in memory, the program's and the definition's: four rows of 64 counters and the touches in one block.
-/
import Derived.Test.YtbhmlfgofemjlaaSkMath
import Derived.Test.YtbhmlfgofemjlaaKeyPlaces
import Derived.Test.YtbhmlfgofemjlaaKept
import Derived.Test.YtbhmlfgofemjlaaSetAt
import Derived.Test.YtbhmlfgofemjlaaHold
import Derived.Deep.WholeRow
set_option maxRecDepth 100000
namespace Go.Proofs.Ytbhmlfgofemjlaa
open Go.RowKit
def skc (kd : IntKind) (s : Sk.St) : List Value := s.c.map (fun (x : Nat) => Value.int kd (x : Int)) ++ [.int .i64 (s.n : Int)]
/-- A sketch in the block q. -/
structure SkIn (t : TypeId) (kd : IntKind) (w : World) (q : Nat) (s : Sk.St) : Prop where
  box : w.heap[q]? = some (.cells (skc kd s).toArray t (0, 0))
  len : s.c.length = 256
  le : ∀ j, Sk.g s.c j ≤ 15
section
variable {t : TypeId} {kd : IntKind} {w w' : World} {q : Nat} {s : Sk.St}
theorem SkIn.cell (h : SkIn t kd w q s) (j : Nat) (hj : j < 256) : w.cell? ⟨q, j, none⟩ = some (.int kd (Sk.g s.c j : Int)) := by
  rw [cell_of_row _ _ j _ t (0, 0) h.box, List.getElem?_toArray]
  unfold skc Sk.g
  rw [List.getElem?_append_left (by rw [List.length_map, h.len]; exact hj), List.getElem?_map, List.getD_eq_getElem?_getD, List.getElem?_eq_getElem (by rw [h.len]; exact hj)]
  rfl
theorem SkIn.num (h : SkIn t kd w q s) : w.cell? ⟨q, 256, none⟩ = some (.int .i64 (s.n : Int)) := by
  rw [cell_of_row _ _ 256 _ t (0, 0) h.box, List.getElem?_toArray]
  unfold skc
  rw [List.getElem?_append_right (by rw [List.length_map, h.len]; exact Nat.le_refl _), List.length_map, h.len]
  rfl
theorem SkIn.frozen (h : SkIn t kd w q s) (j : Nat) : w.frozen? ⟨q, j, none⟩ = false := frozen_of_row _ q j _ _ h.box
theorem SkIn.lt (h : SkIn t kd w q s) : q < w.heap.size := (Array.getElem?_eq_some_iff.1 h.box).1
theorem SkIn.set (h : SkIn t kd w q s) {j x : Nat} (hj : j < 256) (hx : x ≤ 15) : SkIn t kd (w.setCell ⟨q, j, none⟩ (.int kd (x : Int))) q ⟨s.c.set j x, s.n⟩ := by
  refine ⟨?_, by show (s.c.set j x).length = _; rw [List.length_set, h.len], fun k => ?_⟩
  · rw [set_at h.box]
    have e : (skc kd s).set j (.int kd (x : Int)) = skc kd ⟨s.c.set j x, s.n⟩ := by
      unfold skc
      rw [List.set_append_left _ _ (by rw [List.length_map, h.len]; exact hj)]
      show (List.map (fun (x : Nat) => Value.int kd (x : Int)) s.c).set j ((fun (x : Nat) => Value.int kd (x : Int)) x) ++ _ = _
      rw [← List.map_set]
    rw [e]
  · show Sk.g (s.c.set j x) k ≤ 15
    rw [Sk.g_set _ _ _ _ (by rw [h.len]; exact hj)]
    split
    · exact hx
    · exact h.le k
theorem SkIn.setN (h : SkIn t kd w q s) (m : Nat) : SkIn t kd (w.setCell ⟨q, 256, none⟩ (.int .i64 (m : Int))) q ⟨s.c, m⟩ := by
  refine ⟨?_, h.len, h.le⟩
  rw [set_at h.box]
  have e : (skc kd s).set 256 (.int .i64 (m : Int)) = skc kd ⟨s.c, m⟩ := by
    unfold skc
    rw [List.set_append_right _ _ (by rw [List.length_map, h.len]; exact Nat.le_refl _), List.length_map, h.len]
    rfl
  rw [e]
theorem SkIn.kept {S : Nat → Prop} (h : SkIn t kd w q s) (hk : Kept S w w') (hn : ¬ S q) : SkIn t kd w' q s := ⟨(hk.block q h.lt hn).trans h.box, h.len, h.le⟩
theorem SkIn.drewN (h : SkIn t kd w q s) (n : Nat) : SkIn t kd (w.drewN n) q s := ⟨h.box, h.len, h.le⟩
theorem SkIn.drew (h : SkIn t kd w q s) : SkIn t kd w.drew q s := ⟨h.box, h.len, h.le⟩
end
/-- Only the block q is another, and nothing is made. -/
def On (q : Nat) (w w' : World) : Prop := Kept (fun k => k = q) w w' ∧ w'.heap.size = w.heap.size
section
variable {w w' w'' : World} {q : Nat}
theorem On.refl (q : Nat) (w : World) : On q w w := ⟨Kept.refl _ _, rfl⟩
theorem On.trans (h : On q w w') (k : On q w' w'') : On q w w'' := ⟨h.1.trans k.1, k.2.trans h.2⟩
theorem On.drewN (h : On q w w') (n : Nat) : On q w (w'.drewN n) := ⟨h.1.drewN n, h.2⟩
theorem On.drew (h : On q w w') : On q w w'.drew := ⟨⟨h.1.os, h.1.tape, h.1.output, h.1.size, h.1.block⟩, h.2⟩
theorem On.set (h : On q w w') (j : Nat) (v : Value) : On q w (w'.setCell ⟨q, j, none⟩ v) := h.trans ⟨Kept.setCell _ _ _ rfl, by simp [World.setCell]⟩
theorem On.below {B : Nat} (h : On q w w') (hB : B ≤ w.heap.size) (hq : B ≤ q) : Below B w w' := h.1.below hB fun k e => by subst e; exact hq
end
end Go.Proofs.Ytbhmlfgofemjlaa
