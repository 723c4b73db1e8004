/-
  The walks of the statements on checksums: each returns true and leaves all old memory as it was.
-/
import Derived.Test.YtjfgnojmdbfnmaaDoorCrcWalk
import Derived.Lib.SlBytesConst
import Derived.Laws.AppendOwnNone
import Derived.Deep.QuietTactic
import Derived.BigQuiet
namespace Go.Proofs.YtjfgnojmdbfnmaaDoor
open Go.RowKit

theorem TabW.below {B : Nat} {w w' : World} (h : TabW w) (hb : Below B w w') (hB : 0 < B) : TabW w' := fun k hk => (hb.cell (p := ⟨0, k, none⟩) hB).trans (h k hk)
/-- What the statements read of a slice: its first k bytes. -/
theorem cut300 {A : Option Addr} {n B : Nat} {l : List Nat} {w : World} (hl : l.length = n) (hb : Bs w B A l) (k : Nat) :
    ∃ (m : Nat) (l' : List Nat), ((n ≤ k ∧ m = n) ∨ (k < n ∧ m = k)) ∧ Hid (l'.length = m) ∧ Hid (Bs w B A l') ∧ m ≤ k := by
  by_cases h : n ≤ k
  · exact ⟨n, l, .inl ⟨h, rfl⟩, hl, hb, h⟩
  · exact ⟨k, l.take k, .inr ⟨by omega, rfl⟩, by show (l.take k).length = k; rw [List.length_take]; omega, hb.take k, Nat.le_refl _⟩

def nine : List Nat := [49, 50, 51, 52, 53, 54, 55, 56, 57]
theorem tab_alloc {w : World} (h : TabW w) (hz : 0 < w.heap.size) (o : Obj) : TabW (w.alloc o) := h.below ((Below.refl w.heap.size w).alloc (Nat.le_refl _) o) hz
theorem bs_nine (w : World) : Bs (w.alloc (.cells #[.int .u8 49, .int .u8 50, .int .u8 51, .int .u8 52, .int .u8 53, .int .u8 54, .int .u8 55, .int .u8 56, .int .u8 57] 5 (9, 10))) (w.heap.size + 1) (some ⟨w.heap.size, 0, none⟩) nine := by
  intro k hk
  refine ⟨?_, _, rfl, Nat.lt_succ_self _, ?_⟩
  · have : ∀ k, k < 9 → nine.getD k 0 < 256 := by decide
    exact this k hk
  · have hk9 : k < 9 := hk
    have e : (Addr.mk w.heap.size 0 none).add k = ⟨w.heap.size, k, none⟩ := by
      unfold Addr.add
      by_cases h0 : k = 0
      · subst h0; rfl
      · simp [h0]
    rw [e, cell_of_row _ _ _ _ _ _ (heap_alloc_new w _)]
    obtain rfl | rfl | rfl | rfl | rfl | rfl | rfl | rfl | rfl : k = 0 ∨ k = 1 ∨ k = 2 ∨ k = 3 ∨ k = 4 ∨ k = 5 ∨ k = 6 ∨ k = 7 ∨ k = 8 := by omega
    all_goals rfl
theorem TabW.drewN {w : World} (h : TabW w) (n : Nat) : TabW (w.drewN n) := h
theorem Bs.drewN {w : World} {B : Nat} {A : Option Addr} {l : List Nat} (h : Bs w B A l) (n : Nat) : Bs (w.drewN n) B A l := h
theorem below_drewN (w : World) (n : Nat) : Below w.heap.size w (w.drewN n) := ⟨rfl, rfl, rfl, Nat.le_refl _, fun _ _ => rfl⟩
theorem info_byte : (Tryd.prog.info? 5).map (fun i => (i.zero, i.size, i.bytes)) = some (some (.int .u8 0), 1, 1) := by kernel_rfl

end Go.Proofs.YtjfgnojmdbfnmaaDoor
