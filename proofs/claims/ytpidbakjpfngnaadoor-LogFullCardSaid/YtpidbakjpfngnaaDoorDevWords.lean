/-
  Words on a device among other blocks: made behind what was there, what its calls leave; New, Fuse, Dirty of a clean one.
-/
import Derived.Test.YtpidbakjpfngnaaDoorSpMath
set_option maxRecDepth 100000
namespace Go.Proofs.YtpidbakjpfngnaaDoor
open Go.RowKit
/-- A device's blocks: behind what was there at first, apart from a box. -/
def DevNew (w : World) (g c m : Nat) : Prop := w.heap.size ≤ g ∧ w.heap.size ≤ c ∧ w.heap.size ≤ m
theorem devnew_on {w w' : World} {g c m : Nat} (h : DevNew w' g c m) (hs : w.heap.size ≤ w'.heap.size) : DevNew w g c m := ⟨Nat.le_trans hs h.1, Nat.le_trans hs h.2.1, Nat.le_trans hs h.2.2⟩
/-- A device's call: all that was there before the device stays. -/
theorem dev_below {w W W' : World} {g c m : Nat} (h : Below w.heap.size w W) (hn : DevNew w g c m) (hk : Kept (devS g c m) W W') : Below w.heap.size w W' :=
  h.trans (hk.below h.size (fun k hk => by unfold devS at hk; unfold DevNew at hn; omega))
theorem dev_box {w W W' : World} {g c m b : Nat} {o : Obj} (hb : W.heap[b]? = some o) (hn : DevNew w g c m) (hlt : b < w.heap.size) (hk : Kept (devS g c m) W W') : W'.heap[b]? = some o :=
  (hk.block b (Array.getElem?_eq_some_iff.1 hb).1 (fun hd => by unfold devS at hd; unfold DevNew at hn; omega)).trans hb
theorem dev_tab {w W : World} (ht : TabW w) (hz : 0 < w.heap.size) (hb : Below w.heap.size w W) : TabW W ∧ 0 < W.heap.size := ⟨ht.below hb hz, Nat.lt_of_lt_of_le hz hb.size⟩
theorem Dev.on {W W' : World} {g c m n : Nat} {fs : Flash} (h : Dev W g c m n fs) (hb : Below W.heap.size W W') : Dev W' g c m n fs := h.below hb h.lt.1 h.lt.2.1 h.lt.2.2
theorem clean_none (n : Nat) : dirtyCount n (fun _ => none) = 0 := by
  unfold dirtyCount dirtyList
  rw [List.length_eq_zero_iff, List.filter_eq_nil_iff]
  intro k _
  simp
/-- What New leaves. -/
def NewDev (w : World) (n : Nat) (r : Ending) (w' : World) : Prop := ∃ g c m, r = .returned (.pointer (some ⟨g, 0, none⟩)) ∧ Dev w' g c m n (Flash.fresh (List.replicate (n * 64) 0)) ∧ DevNew w g c m ∧ Below w.heap.size w w'
theorem new_dev (n : Nat) (ni : Int) (hni : ni = (n : Int)) (w : World) (h1 : 1 ≤ n) (h2 : n ≤ 1048576) : Calls Tryd.prog 11 #[.int .i64 ni] w (NewDev w n) :=
  (new_yes n ni hni w h1 h2).mono fun _ _ ⟨g, c, m, e, hd, q1, q2, q3, hb⟩ => ⟨g, c, m, e, hd, ⟨q1, q2, q3⟩, hb⟩
/-- The fuse, on a device with nothing dirty. -/
theorem fuse_dev (k : Int) (hk : 0 ≤ k ∧ k ≤ 3) {W : World} {g c m n : Nat} {l : List Nat} {wr : Nat} {b : Bool} {f : Int} (hd : Dev W g c m n (Flash.clean l wr b f)) :
    Calls Tryd.prog 22 #[.pointer (some ⟨g, 0, none⟩), .int .i64 k] W fun e w' => e = .returned (.tuple #[]) ∧ Dev w' g c m n (Flash.clean l wr true k) ∧ Kept (devS g c m) W w' :=
  (fuse_any k (by omega) (Lib.hid hd)).mono fun _ _ ⟨e1, h, hk'⟩ => ⟨e1, by rwa [clean_fuse l wr b f k hk.1] at h, hk'.mono fun j _ hj => .inl hj⟩
end Go.Proofs.YtpidbakjpfngnaaDoor
