/-
  The law's value: a found value of a literal key; constant letters as bytes, in any world.
-/
import Derived.Test.YtcdomlgnfbdeoaaRpMem
import Derived.Test.YtcdomlgnfbdeoaaTbMath
import Derived.Test.YtcdomlgnfbdeoaaSetAt
import Derived.Lib.SmallJoins
import Derived.BigQuiet
set_option maxRecDepth 100000
namespace Go.Proofs.Ytcdomlgnfbdeoaa
open Go.RowKit
theorem letters_in (w : World) (k : ByteArray) : Bs (Lib.bytesWorld w 5 k) (w.heap.size + 1) (some ⟨w.heap.size, 0, none⟩) (Tb.nums k) := by
  intro j hj
  rw [Tb.nums_length] at hj
  have e : (Tb.nums k).getD j 0 = (k.data.toList.getD j 0).toNat := by
    unfold Tb.nums
    rw [List.getD_eq_getElem?_getD, List.getElem?_map, List.getD_eq_getElem?_getD]
    cases k.data.toList[j]? <;> rfl
  rw [e]
  refine ⟨UInt8.toNat_lt _, _, rfl, Nat.lt_succ_self _, ?_⟩
  rw [arr_flat, Nat.zero_add]
  exact Lib.bytesWorld_cell w 5 k j hj
theorem letters_below (w : World) (k : ByteArray) : Below w.heap.size w (Lib.bytesWorld w 5 k) :=
  ⟨rfl, rfl, rfl, by rw [Lib.bytesWorld_size]; omega, fun i hi => Lib.bytesWorld_at_old w _ k i hi⟩
def ValueIs (k : ByteArray) (x : Int) (w : World) (e : Ending) (w' : World) : Prop :=
  ∃ A c, e = .returned (.agg #[.int .i64 0, .int .i64 17, .int .i64 1, .slice A k.size c, .slice none 0 0, .int .i64 x]) ∧ SlIs A k.size c ∧ Bs w' w'.heap.size A (Tb.nums k) ∧ Below w.heap.size w w'
set_option maxHeartbeats 2000000 in
theorem value22_any (k : ByteArray) (x : Int) (w : World) (hk : k.size ≤ 1048576) :
    Calls Try.prog 12 #[.string k, .int .i64 x] w (ValueIs k x w) := by
  have kc := fun W => Lib.run_convert_string_bytes (P := Try.prog) W 9 40 5 k Try.underlying9 Try.underlying40 Try.underlying5
  obtain ⟨Z, hZ⟩ : ∃ Z, Z = Obj.cells #[.int .i64 0, .int .i64 0, .int .i64 0, .slice none 0 0, .slice none 0 0, .int .i64 0] 44 := ⟨_, rfl⟩
  have hge := grownCap_ge (w.alloc Z) k.size 0 5
  have hle := grownCap_le_maxLen (w.alloc Z) k.size 0 5 (by unfold maxLen; omega)
  have hx0 : (Lib.bytesWorld (w.alloc Z) 5 k).heap[w.heap.size]? = some Z := (Lib.bytesWorld_at_old (w.alloc Z) _ k _ (Array.getElem?_eq_some_iff.1 (heap_alloc_new w Z)).1).trans (heap_alloc_new w Z)
  have hsz : (w.alloc Z).heap.size = w.heap.size + 1 := by simp
  have HLT := Lib.hid (letters_in (w.alloc Z) k)
  have HB0 : Hid (Below w.heap.size w (Lib.bytesWorld (w.alloc Z) 5 k)) := ((Below.refl _ w).alloc (Nat.le_refl _) Z).trans ((letters_below (w.alloc Z) k).mono (by rw [hsz]; omega))
  have HS0 : Hid (SlIs (some ⟨(w.alloc Z).heap.size, 0, none⟩) k.size (grownCap (w.alloc Z) k.size 0 5)) := ⟨(fun e => by cases e), hge, by unfold maxLen at hle; exact hle⟩
  have HW0 : Hid (w.heap.size < (w.alloc Z).heap.size ∧ (w.alloc Z).heap.size < (Lib.bytesWorld (w.alloc Z) 5 k).heap.size) := ⟨by rw [hsz]; omega, by rw [Lib.bytesWorld_size]; omega⟩
  clear hge hle
  go_enter Try.func12, Try.ntmps12
  go_upto_region 1 with fail
  rw [← hZ]
  have hf0 : (Lib.bytesWorld (w.alloc Z) 5 k).heap[w.heap.size]? = some (.cells #[.int .i64 0, .int .i64 0, .int .i64 0, .slice none 0 0, .slice none 0 0, .int .i64 0] 44 (0, 0)) := hZ ▸ hx0
  have HF0 := Lib.hid hf0
  obtain ⟨y0, y1, y2, y3, y4, y5⟩ := six_cells hf0
  obtain ⟨f0, f1, f2, f3, f4, f5⟩ := six_frozen hf0
  clear hx0 hf0 hZ hsz
  have kcw := kc (w.alloc Z)
  clear kc
  generalize grownCap (w.alloc Z) k.size 0 5 = c at *
  generalize Lib.bytesWorld (w.alloc Z) 5 k = wb at *
  generalize w.alloc Z = wa at *
  generalize wa.heap.size = q at *
  go_wp2_with fail
  have HK : Hid (Kept (fun k => k = w.heap.size) wb ((((((wb.setCell ⟨w.heap.size, 0, none⟩ (.int .i64 0)).setCell ⟨w.heap.size, 1, none⟩ (.int .i64 17)).setCell ⟨w.heap.size, 2, none⟩ (.int .i64 1)).setCell ⟨w.heap.size, 3, none⟩ (.slice (some ⟨q, 0, none⟩) k.size c)).setCell ⟨w.heap.size, 4, none⟩ (.slice none 0 0)).setCell ⟨w.heap.size, 5, none⟩ (.int .i64 x))) :=
    (((((Kept.setCell (S := fun k => k = w.heap.size) _ ⟨w.heap.size, 0, none⟩ _ rfl).trans (Kept.setCell (S := fun k => k = w.heap.size) _ ⟨w.heap.size, 1, none⟩ _ rfl)).trans (Kept.setCell (S := fun k => k = w.heap.size) _ ⟨w.heap.size, 2, none⟩ _ rfl)).trans (Kept.setCell (S := fun k => k = w.heap.size) _ ⟨w.heap.size, 3, none⟩ _ rfl)).trans (Kept.setCell (S := fun k => k = w.heap.size) _ ⟨w.heap.size, 4, none⟩ _ rfl)).trans (Kept.setCell (S := fun k => k = w.heap.size) _ ⟨w.heap.size, 5, none⟩ _ rfl)
  refine bodyPost_ret (results_cell_row rfl _ _ w.heap.size _ _ (0, 0) _ rfl (stored6 HF0.out) Try.underlying44 rfl (by kernel_rfl)) rfl ?_
  clear y0 y1 y2 y3 y4 y5 f0 f1 f2 f3 f4 f5 kcw HF0
  generalize ((((((wb.setCell ⟨w.heap.size, 0, none⟩ (.int .i64 0)).setCell ⟨w.heap.size, 1, none⟩ (.int .i64 17)).setCell ⟨w.heap.size, 2, none⟩ (.int .i64 1)).setCell ⟨w.heap.size, 3, none⟩ (.slice (some ⟨q, 0, none⟩) k.size c)).setCell ⟨w.heap.size, 4, none⟩ (.slice none 0 0)).setCell ⟨w.heap.size, 5, none⟩ (.int .i64 x)) = ws at *
  have hw := HW0.out
  have hq : ws.heap[q]? = wb.heap[q]? := HK.out.block q hw.2 (show ¬ q = w.heap.size from fun e => by rw [e] at hw; exact Nat.lt_irrefl _ hw.1)
  have hz : q < ws.heap.size := Nat.lt_of_lt_of_le hw.2 HK.out.size
  have hbs : Bs ws ws.heap.size (some ⟨q, 0, none⟩) (Tb.nums k) := fun j hj => by
    obtain ⟨h1, ad, e, h3, h4⟩ := HLT.out j hj
    injection e with e
    subst e
    exact ⟨h1, _, rfl, hz, (World.cell?_of_block (by rw [add_block]; exact hq)).trans h4⟩
  have hbb : Below w.heap.size w ws := HB0.out.trans (HK.out.below HB0.out.size fun k e => by rw [show k = w.heap.size from e]; exact Nat.le_refl _)
  exact ⟨some ⟨q, 0, none⟩, c, rfl, HS0.out, hbs, hbb⟩
end Go.Proofs.Ytcdomlgnfbdeoaa
