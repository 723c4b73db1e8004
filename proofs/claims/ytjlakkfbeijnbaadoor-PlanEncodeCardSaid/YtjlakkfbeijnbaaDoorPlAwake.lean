/-
  The walk of layer 10's Awake.
-/
import Derived.Test.YtjlakkfbeijnbaaDoorPlResize
import Derived.OwnWalk
namespace Go.Proofs.YtjlakkfbeijnbaaDoor
open Go.RowKit
/-- A block stays what it is. -/
theorem box_next {w w1 w2 : World} {g : Nat} {o : Obj} (h : w.heap[g]? = some o) (k : Below w1.heap.size w1 w2) (e : w1.heap = w.heap) : w2.heap[g]? = some o := by
  have hlt := (Array.getElem?_eq_some_iff.1 h).1
  exact (k.block g (by rw [e]; exact hlt)).trans (by rw [e]; exact h)
theorem box_old {w : World} {g : Nat} {o o' : Obj} (h : w.heap[g]? = some o) : (w.alloc o').heap[g]? = some o := (heap_alloc_old _ _ (Array.getElem?_eq_some_iff.1 h).1).trans h
set_option maxHeartbeats 2000000 in
theorem plawake_any (w : World) : Calls Tryd.prog 8 #[] w fun r w' => r = .returned (.bool true) ∧ Below w.heap.size w w' := by
  have C1 : Hid (∀ W, Calls Tryd.prog 20 #[.agg #[.int .i64 1, .int .i64 1, .int .i64 4, .int .i64 4], .int .i64 100, .int .i64 4, .int .i64 6] W fun r w' => r = .returned (.tuple #[.agg #[.int .i64 2, .int .i64 1, .int .i64 4, .int .i64 6], .int .i64 0]) ∧ Below W.heap.size W w') := fun W => by
    have h := plresize_any 1 1 4 4 100 4 6 W
    rwa [show Mg.resize ⟨1, 1, 4, 4⟩ 100 4 6 = ⟨⟨2, 1, 4, 6⟩, 0⟩ by unfold Mg.resize; rw [if_pos (by decide), if_pos (by decide)]; rfl] at h
  have C2 : Hid (∀ W, Calls Tryd.prog 20 #[.agg #[.int .i64 1, .int .i64 1, .int .i64 4, .int .i64 4], .int .i64 100, .int .i64 4, .int .i64 7] W fun r w' => r = .returned (.tuple #[.agg #[.int .i64 0, .int .i64 0, .int .i64 0, .int .i64 0], .int .i64 10]) ∧ Below W.heap.size W w') := fun W => by
    have h := plresize_any 1 1 4 4 100 4 7 W
    rwa [show Mg.resize ⟨1, 1, 4, 4⟩ 100 4 7 = ⟨⟨0, 0, 0, 0⟩, 10⟩ by unfold Mg.resize; rw [if_pos (by decide), if_neg (by decide)]; rfl] at h
  have C3 : Hid (∀ W, Calls Tryd.prog 21 #[.agg #[.int .i64 1, .int .i64 1, .int .i64 4, .int .i64 4]] W fun r w' => r = .returned (.tuple #[.agg #[.int .i64 2, .int .i64 2, .int .i64 4, .int .i64 4], .int .i64 0]) ∧ Below W.heap.size W w') := fun W => by
    have h := plupgrade_any 1 1 4 4 W
    rwa [show Mg.upgrade ⟨1, 1, 4, 4⟩ = ⟨⟨2, 2, 4, 4⟩, 0⟩ by unfold Mg.upgrade; rw [if_pos (by decide), if_neg (by decide)]; rfl] at h
  have hq : ∀ W : World, (Op.equalIn 10000 23 (.agg #[.int .i64 2, .int .i64 1, .int .i64 4, .int .i64 6]) (.agg #[.int .i64 2, .int .i64 1, .int .i64 4, .int .i64 6])).run Tryd.prog W = .ok true W := fun W => lay_eq W _ _ _ _ _ _ _ _
  have HS0 := Lib.hid (sd_new w #[.int .i64 1, .int .i64 1, .int .i64 4, .int .i64 4] 23)
  go_enter Tryd.func8, Tryd.ntmps8
  go_upto_region 2 with fail
  generalize w.alloc (.cells #[.int .i64 1, .int .i64 1, .int .i64 4, .int .i64 4] 23) = w0 at *
  obtain ⟨z0, z1, z2, z3⟩ := four_cells HS0.out.1
  go_wp2_with fail
  refine (C1.out _).mono ?_
  rintro r w1 ⟨rfl, hb1⟩
  have HS1 := Lib.hid (HS0.out.next hb1 (by rfl) (by rfl) (by rfl) (by rfl))
  clear hb1 z0 z1 z2 z3 HS0 C1
  have HS2 : Hid (Sd w w.heap.size _ (w1.alloc (.cells #[.int .i64 2, .int .i64 1, .int .i64 4, .int .i64 6] 23))) := HS1.out.next ((Below.refl _ w1).alloc (Nat.le_refl _) _) rfl rfl rfl rfl
  have HT2 : Hid ((w1.alloc (.cells #[.int .i64 2, .int .i64 1, .int .i64 4, .int .i64 6] 23)).heap[w1.heap.size]? = some (.cells #[.int .i64 2, .int .i64 1, .int .i64 4, .int .i64 6] 23 (0, 0))) := heap_alloc_new _ _
  go_upto_region 3 with fail
  generalize w1.alloc (.cells #[.int .i64 2, .int .i64 1, .int .i64 4, .int .i64 6] 23) = w2 at *
  obtain ⟨z0, z1, z2, z3⟩ := four_cells HS2.out.1
  go_wp2_with fail
  refine (C2.out _).mono ?_
  rintro r w3 ⟨rfl, hb3⟩
  have HS3 := Lib.hid (HS2.out.next hb3 (by rfl) (by rfl) (by rfl) (by rfl))
  have HT3 := Lib.hid (box_next HT2.out hb3 (by rfl))
  clear hb3 z0 z1 z2 z3 HS2 HT2 HS1 C2
  have HS4 : Hid (Sd w w.heap.size _ (w3.alloc (.cells #[.int .i64 0, .int .i64 0, .int .i64 0, .int .i64 0] 23))) := HS3.out.next ((Below.refl _ w3).alloc (Nat.le_refl _) _) rfl rfl rfl rfl
  have HT4 : Hid ((w3.alloc (.cells #[.int .i64 0, .int .i64 0, .int .i64 0, .int .i64 0] 23)).heap[w1.heap.size]? = some (.cells #[.int .i64 2, .int .i64 1, .int .i64 4, .int .i64 6] 23 (0, 0))) := box_old HT3.out
  go_upto_region 4 with fail
  generalize w3.alloc (.cells #[.int .i64 0, .int .i64 0, .int .i64 0, .int .i64 0] 23) = w4 at *
  obtain ⟨z0, z1, z2, z3⟩ := four_cells HS4.out.1
  go_wp2_with fail
  refine (C3.out _).mono ?_
  rintro r w5 ⟨rfl, hb5⟩
  have HS5 := Lib.hid (HS4.out.next hb5 (by rfl) (by rfl) (by rfl) (by rfl))
  have HT5 := Lib.hid (box_next HT4.out hb5 (by rfl))
  clear hb5 z0 z1 z2 z3 HS4 HT4 HS3 HT3 C3
  have HS6 : Hid (Sd w w.heap.size _ (w5.alloc (.cells #[.int .i64 2, .int .i64 2, .int .i64 4, .int .i64 4] 23))) := HS5.out.next ((Below.refl _ w5).alloc (Nat.le_refl _) _) rfl rfl rfl rfl
  have HT6 : Hid ((w5.alloc (.cells #[.int .i64 2, .int .i64 2, .int .i64 4, .int .i64 4] 23)).heap[w1.heap.size]? = some (.cells #[.int .i64 2, .int .i64 1, .int .i64 4, .int .i64 6] 23 (0, 0))) := box_old HT5.out
  have HU6 : Hid ((w5.alloc (.cells #[.int .i64 2, .int .i64 2, .int .i64 4, .int .i64 4] 23)).heap[w5.heap.size]? = some (.cells #[.int .i64 2, .int .i64 2, .int .i64 4, .int .i64 4] 23 (0, 0))) := heap_alloc_new _ _
  go_upto_region 5 with fail
  generalize w5.alloc (.cells #[.int .i64 2, .int .i64 2, .int .i64 4, .int .i64 4] 23) = w6 at *
  obtain ⟨z0, z1, z2, z3⟩ := four_cells HT6.out
  obtain ⟨y0, y1, y2, y3⟩ := four_cells HU6.out
  go_wp2_with fail
  go_ret
  exact ⟨rfl, HS6.out.2⟩
end Go.Proofs.YtjlakkfbeijnbaaDoor
