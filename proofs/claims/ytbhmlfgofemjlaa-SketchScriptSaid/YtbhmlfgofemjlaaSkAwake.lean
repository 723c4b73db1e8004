/-
  The law Awake of layer 19.
-/
import Derived.Test.YtbhmlfgofemjlaaSkTouch
set_option maxRecDepth 100000
namespace Go.Proofs.Ytbhmlfgofemjlaa
open Go.RowKit
theorem skawake_nums : Sk.est (Sk.touch (Sk.touch Sk.new 5) 5) 5 = 2 ∧ (Sk.touch (Sk.touch Sk.new 5) 5).n = 2 ∧ Sk.est (Sk.touch (Sk.touch Sk.new 5) 5) 1048576 = 0 := by decide +kernel
/-- A sketch from base B on. -/
structure SkSt (B : Nat) (w : World) (q : Nat) (s : Sk.St) : Prop where
  le : B ≤ q
  i : SkIn 41 .u8 w q s
  ok : Sk.Ok s
section
variable {B q : Nat} {s : Sk.St} {w w' : World}
theorem SkSt.new (w : World) (h : B ≤ w.heap.size) : SkSt B (w.alloc (.cells (skc .u8 Sk.new).toArray 41 (0, 0))) w.heap.size Sk.new := ⟨h, SkIn.new _ _ _, Sk.ok_new⟩
theorem SkSt.touch (h : SkSt B w q s) {N : Nat} (hi : SkIn 41 .u8 w' q (Sk.touch s N)) : SkSt B w' q (Sk.touch s N) := ⟨h.le, hi, Sk.ok_touch h.ok N⟩
theorem SkSt.next (h : SkSt B w q s) (hk : Below w.heap.size w w') : SkSt B w' q s := ⟨h.le, h.i.kept (Kept.of_below hk) (fun e => by have := h.i.lt; omega), h.ok⟩
theorem SkSt.on (h : SkSt B w q s) {p : Nat} (ho : On p w w') (hn : q ≠ p) : SkSt B w' q s := ⟨h.le, h.i.kept ho.1 hn, h.ok⟩
theorem SkSt.drewN (h : SkSt B w q s) (n : Nat) : SkSt B (w.drewN n) q s := ⟨h.le, h.i.drewN n, h.ok⟩
theorem SkSt.few (h : SkSt B w q s) : s.n < 1000000 := by have := h.ok.lt; omega
end
theorem below_new (w : World) (o : Obj) : Below w.heap.size w (w.alloc o) := (Below.refl _ w).alloc (Nat.le_refl _) o
set_option maxHeartbeats 1000000 in
theorem skawake_any (w : World) : Calls Try.prog 12 #[] w fun e w' => e = .returned (.bool true) ∧ Below w.heap.size w w' := by
  obtain ⟨B, hB⟩ : ∃ B, w.heap.size = B := ⟨_, rfl⟩
  have CN := Lib.hid (sknew_any w)
  have HS1 := Lib.hid (SkSt.new (B := B) w (Nat.le_of_eq hB.symm))
  have HB1 := Lib.hid (below_new w (.cells (skc .u8 Sk.new).toArray 41 (0, 0)))
  have HZ1 : Hid (B ≤ (w.alloc (.cells (skc .u8 Sk.new).toArray 41 (0, 0))).heap.size) := Nat.le_trans (Nat.le_of_eq hB.symm) HB1.out.size
  rw [hB] at CN HS1 HB1
  rw [hB]
  generalize w.alloc (.cells (skc .u8 Sk.new).toArray 41 (0, 0)) = w1 at *
  clear hB
  go_enter Try.func12, Try.ntmps12
  go_wp2_with fail
  refine CN.out.mono ?_
  rintro e w1' ⟨rfl, rfl⟩
  clear CN
  go_wp2_with fail
  refine (sktouch_any B 5 _ _ (by decide) HS1.out.few (Lib.hid HS1.out.i)).mono ?_
  rintro e w2 ⟨rfl, h2, ho2⟩
  have HS2 := Lib.hid (HS1.out.touch h2)
  have HB2 := Lib.hid (HB1.out.trans (ho2.below HZ1.out (Nat.le_refl _)))
  have HZ2 : Hid (B ≤ w2.heap.size) := Nat.le_trans HZ1.out ho2.1.size
  clear h2 ho2 HS1 HB1 HZ1
  go_wp2_with fail
  refine (sktouch_any B 5 _ _ (by decide) HS2.out.few (Lib.hid HS2.out.i)).mono ?_
  rintro e w3 ⟨rfl, h3, ho3⟩
  have HS3 := Lib.hid (HS2.out.touch h3)
  have HB3 := Lib.hid (HB2.out.trans (ho3.below HZ2.out (Nat.le_refl _)))
  have HNU := Lib.hid skawake_nums
  generalize Sk.touch (Sk.touch Sk.new 5) 5 = s at *
  clear h3 ho3 HS2 HB2 HZ2
  have C1 := Lib.hid (skest_any B 5 s w3 (by decide) (Lib.hid HS3.out.i))
  rw [HNU.out.1] at C1
  go_wp2_with fail
  refine C1.out.mono ?_
  rintro e w4 ⟨rfl, n4, rfl⟩
  have C2 := Lib.hid (sktouches_any B s (w3.drewN n4) (Lib.hid (HS3.out.drewN n4).i))
  rw [HNU.out.2.1] at C2
  clear C1
  go_wp2_with fail
  refine C2.out.mono ?_
  rintro e w5 ⟨rfl, rfl⟩
  have C3 := Lib.hid (skest_any B 1048576 s (w3.drewN n4) (by decide) (Lib.hid (HS3.out.drewN n4).i))
  rw [HNU.out.2.2] at C3
  clear C2
  go_wp2_with fail
  refine C3.out.mono ?_
  rintro e w6 ⟨rfl, n6, rfl⟩
  go_wp2_with fail
  go_ret
  exact ⟨rfl, below_drawn HB3.out _⟩
end Go.Proofs.Ytbhmlfgofemjlaa
