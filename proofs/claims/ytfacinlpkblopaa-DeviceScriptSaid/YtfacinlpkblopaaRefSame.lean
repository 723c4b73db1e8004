/-
  The walk of the script's comparison.
-/
import Derived.Test.YtfacinlpkblopaaRefCrash
import Derived.Deep.RegionHeld3
namespace Go.Proofs.Ytfacinlpkblopaa
open Go.RowKit Go.Maps
theorem below_step {B : Nat} {a b b' c : World} (h : Below B a b) (k : Below b'.heap.size b' c) (e1 : b'.heap = b.heap) (e2 : b'.os = b.os) (e3 : b'.tape = b.tape) (e4 : b'.output = b.output) (hB : B ≤ b.heap.size) : Below B a c :=
  ⟨k.os.trans (e2.trans h.os), k.tape.trans (e3.trans h.tape), k.output.trans (e4.trans h.output), Nat.le_trans h.size (by have := k.size; rw [e1] at this; exact this), fun i hi => (k.block i (by rw [e1]; omega)).trans (by rw [e1]; exact h.block i hi)⟩
theorem cells_up {w W : World} {r : Nat} {a0 a1 a2 a3 a4 a5 a6 : Value} {T : TypeId} (hh : w.heap[r]? = some (.cells #[a0, a1, a2, a3, a4, a5, a6] T (0, 0))) (hb : Below w.heap.size w W) (hl : r < w.heap.size) :
    W.cell? ⟨r, 1, none⟩ = some a1 ∧ W.cell? ⟨r, 2, none⟩ = some a2 ∧ W.cell? ⟨r, 5, none⟩ = some a5 ∧ W.cell? ⟨r, 6, none⟩ = some a6 := by
  obtain ⟨⟨-, c1, c2, -, -, c5, c6⟩, -⟩ := rd7 ((hb.block r hl).trans hh)
  exact ⟨c1, c2, c5, c6⟩
set_option maxRecDepth 100000 in
set_option maxHeartbeats 4000000 in
theorem same_any {g c m r o v t n lo : Nat} {s : Flash} {w : World} (hd : Hid (Dev w g c m n s)) (hr : Hid (RDev w r o v t n lo s)) :
    Calls Try.prog 22 #[.pointer (some ⟨g, 0, none⟩), .pointer (some ⟨r, 0, none⟩)] w fun e w' => e = .returned (.bool true) ∧ Below w.heap.size w w' := by
  have HF := Lib.hid hd.out.ok
  have hn := hd.out.n_le
  have C1 : Hid (∀ W, W.heap = w.heap → Dev W g c m n s ∧ RDev W r o v t n lo s) := fun W h => ⟨hd.out.block (by rw [h]) (by rw [h]) (by rw [h]), hr.out.block (by rw [h]) (by rw [h]) (by rw [h]) (by rw [h])⟩
  have HL : Hid (s.cur.length = n * 64) := HF.out.len
  obtain ⟨ro, rv, left, hh, ho, hv, ht, hf, hlo1, hhi, hco, hcv, hrr⟩ := hr.out
  obtain ⟨⟨-, c1, c2, -, -, c5, c6⟩, -⟩ := rd7 hh
  have HP := Lib.hid hh
  clear hh ho hv ht hf hrr hlo1 hhi
  generalize hdc : dirtyCount n s.old = dc
  have HDC := Lib.hid hdc; clear hdc
  go_enter Try.func22, Try.ntmps22
  go_wp2_with fail
  go_region_held3 (fun W => W.cell? ⟨r, 1, none⟩ = some (.slice (some ⟨v, 0, none⟩) (n * 64) (n * 64 + rv.length)) ∧ W.cell? ⟨r, 2, none⟩ = some (.slice (some ⟨t, 0, none⟩) n n) ∧ W.cell? ⟨r, 5, none⟩ = some (.bool s.dead) ∧ W.cell? ⟨r, 6, none⟩ = some (.int .i64 (s.wr : Int)))
    (first
      | go_keep
      | exact cells_up HP.out HB1.out (Array.getElem?_eq_some_iff.1 HP.out).1)
    (first
    | (go_at_call 27; refine (sectors_any (Lib.hid (C1.out _ (by rfl)).1)).mono ?_; rintro e w' ⟨rfl, rfl⟩)
    | (go_at_call 28; refine (dirty_any (Lib.hid (C1.out _ (by rfl)).1)).mono ?_; rw [HDC.out]; rintro e w' ⟨rfl, rfl⟩)
    | (go_at_call 42; refine (rdirty_any hn.2 (Lib.hid (C1.out _ (by rfl)).2)).mono ?_; rw [HDC.out]; rintro e w' ⟨rfl, rfl⟩)
    | (go_at_call 25; refine (dead_any (Lib.hid (C1.out _ (by rfl)).1)).mono ?_; rintro e w' ⟨rfl, rfl⟩)
    | (go_at_call 29; refine (writes_any (Lib.hid (C1.out _ (by rfl)).1)).mono ?_; rintro e w' ⟨rfl, rfl⟩)
    | (go_at_call 24; refine (image_any (Lib.hid (C1.out _ (by rfl)).1)).mono ?_; rintro e w1 ⟨gi, ci, rfl, hgi, hbi, hci, hmi, hb1, howni⟩; have HB1 : Hid (Below w.heap.size w w1) := below_step (Below.refl _ w) hb1 rfl rfl rfl rfl (Nat.le_refl _); have HBI := Lib.hid hbi; clear hb1 hbi hgi hci hmi howni)
    | (go_at_call 15; refine (refeq_any (some ⟨gi, 0, none⟩) (some ⟨v, 0, none⟩) w1.heap.size w1.heap.size (s.cur.length) (n * 64) ci (n * 64 + rv.length) s.cur s.cur _ rfl HL (by rw [HL.out]; omega) (by omega) HBI ((hr.out.next HB1.out).bytes HF.out)).mono ?_; rintro e w9 ⟨rfl, q9, rfl⟩))
  all_goals
    go_wp2
    go_ret
    exact ⟨rfl, HB1.out.os, HB1.out.tape, HB1.out.output, HB1.out.size, HB1.out.block⟩
end Go.Proofs.Ytfacinlpkblopaa
