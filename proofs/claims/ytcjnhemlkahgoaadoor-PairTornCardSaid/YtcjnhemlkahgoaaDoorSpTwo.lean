/-
  Words for the laws on two publications: two boxes that stay, one number stored.
-/
import Derived.Test.YtcjnhemlkahgoaaDoorSpAwake
set_option maxRecDepth 100000
namespace Go.Proofs.YtcjnhemlkahgoaaDoor
open Go.RowKit
/-- Two boxes behind what was there at first. -/
def TwoBox (w : World) (p3 p4 : Nat) (o3 o4 : Obj) (W : World) : Prop := W.heap[p3]? = some o3 ∧ W.heap[p4]? = some o4 ∧ p3 ≠ p4 ∧ w.heap.size ≤ p3 ∧ w.heap.size ≤ p4 ∧ Below w.heap.size w W
section
variable {w W W' : World} {p3 p4 : Nat} {o3 o4 : Obj}
theorem TwoBox.one (h : TwoBox w p3 p4 o3 o4 W) : W.heap[p3]? = some o3 := h.1
theorem TwoBox.two (h : TwoBox w p3 p4 o3 o4 W) : W.heap[p4]? = some o4 := h.2.1
theorem TwoBox.below (h : TwoBox w p3 p4 o3 o4 W) : Below w.heap.size w W := h.2.2.2.2.2
theorem TwoBox.lt (h : TwoBox w p3 p4 o3 o4 W) : p3 < W.heap.size ∧ p4 < W.heap.size := ⟨box_lt h.1, box_lt h.2.1⟩
theorem TwoBox.on (h : TwoBox w p3 p4 o3 o4 W) (hb : Below W.heap.size W W') : TwoBox w p3 p4 o3 o4 W' := ⟨box_on h.1 hb, box_on h.2.1 hb, h.2.2.1, h.2.2.2.1, h.2.2.2.2.1, h.below.trans (hb.mono h.below.size)⟩
theorem TwoBox.made (h : TwoBox w p3 p4 o3 o4 W) (o : Obj) : TwoBox w p3 p4 o3 o4 (W.alloc o) := h.on (below_new _ _)
theorem TwoBox.dev {w8 : World} {g c m : Nat} (h : TwoBox w p3 p4 o3 o4 W) (hn : DevNew w8 g c m) (hlt : p3 < w8.heap.size ∧ p4 < w8.heap.size) (hw : w.heap.size ≤ w8.heap.size) (hk : Kept (devS g c m) W W') : TwoBox w p3 p4 o3 o4 W' :=
  ⟨dev_box h.1 hn hlt.1 hk, dev_box h.2.1 hn hlt.2 hk, h.2.2.1, h.2.2.2.1, h.2.2.2.2.1, dev_below h.below (devnew_on hn hw) hk⟩
theorem TwoBox.set {r0 r1 r2 r3 r4 r5 r6 r7 r8 r9 r10 r11 r12 r13 : Value} (h : TwoBox w p3 p4 o3 (.cells #[r0, r1, r2, r3, r4, r5, r6, r7, r8, r9, r10, r11, r12, r13] 27 (0, 0)) W) (b : Value) : TwoBox w p3 p4 o3 (.cells #[b, r1, r2, r3, r4, r5, r6, r7, r8, r9, r10, r11, r12, r13] 27 (0, 0)) (W.setCell ⟨p4, 0, none⟩ b) :=
  ⟨((grown_set W p4 0 b).block _ (box_lt h.1) (fun e => by injection e with e; exact h.2.2.1 e)).trans h.1, by
    have h2 := h.2.1
    simp [World.setCell, Array.getElem?_modify, h2], h.2.2.1, h.2.2.2.1, h.2.2.2.2.1, h.below.trans (below_of_grown (grown_set W p4 0 b) h.2.2.2.2.1 h.below.size)⟩
theorem TwoBox.drew (h : TwoBox w p3 p4 o3 o4 W) : TwoBox w p3 p4 o3 o4 W.drew := ⟨h.1, h.2.1, h.2.2.1, h.2.2.2.1, h.2.2.2.2.1, h.below.drew⟩
end
theorem sd2_on {w W W' : World} {o o' : Obj} (h : Sd2 w o o' W) (hb : Below W.heap.size W W') : Sd2 w o o' W' := ⟨box_on h.1 hb, box_on h.2.1 hb, h.2.2.trans (hb.mono h.2.2.size)⟩
/-- The fuse, on a device with nothing dirty. -/
theorem fuse_dev (k : Int) (hk : 0 ≤ k ∧ k ≤ 3) {W : World} {g c m n : Nat} {l : List Nat} {wr : Nat} {b : Bool} {f : Int} (hd : Dev W g c m n (Flash.clean l wr b f)) :
    Calls Tryd.prog 26 #[.pointer (some ⟨g, 0, none⟩), .int .i64 k] W fun e w' => e = .returned (.tuple #[]) ∧ Dev w' g c m n (Flash.clean l wr true k) ∧ Kept (devS g c m) W w' :=
  (fuse_any k (by omega) (Lib.hid hd)).mono fun _ _ ⟨e1, h, hk'⟩ => ⟨e1, by rwa [clean_fuse l wr b f k hk.1] at h, hk'.mono fun j _ hj => .inl hj⟩
end Go.Proofs.YtcjnhemlkahgoaaDoor
