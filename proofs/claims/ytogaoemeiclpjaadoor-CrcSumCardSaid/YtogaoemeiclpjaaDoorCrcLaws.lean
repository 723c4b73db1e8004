/-
  The walks of the statements on checksums: each returns true and leaves all old memory as it was.
-/
import Derived.Test.YtogaoemeiclpjaaDoorCrcWalk
import Derived.Lib.SlBytesConst
import Derived.Laws.AppendOwnNone
import Derived.Deep.QuietTactic
import Derived.BigQuiet
namespace Go.Proofs.YtogaoemeiclpjaaDoor
open Go.RowKit

theorem TabW.below {B : Nat} {w w' : World} (h : TabW w) (hb : Below B w w') (hB : 0 < B) : TabW w' := fun k hk => (hb.cell (p := ⟨0, k, none⟩) hB).trans (h k hk)
/-- What the statements read of a slice: its first k bytes. -/
theorem cut300 {A : Option Addr} {n B : Nat} {l : List Nat} {w : World} (hl : l.length = n) (hb : Bs w B A l) (k : Nat) :
    ∃ (m : Nat) (l' : List Nat), ((n ≤ k ∧ m = n) ∨ (k < n ∧ m = k)) ∧ Hid (l'.length = m) ∧ Hid (Bs w B A l') ∧ m ≤ k := by
  by_cases h : n ≤ k
  · exact ⟨n, l, .inl ⟨h, rfl⟩, hl, hb, h⟩
  · exact ⟨k, l.take k, .inr ⟨by omega, rfl⟩, by show (l.take k).length = k; rw [List.length_take]; omega, hb.take k, Nat.le_refl _⟩

def nine : List Nat := [49, 50, 51, 52, 53, 54, 55, 56, 57]
theorem tab_alloc {w : World} (h : TabW w) (hz : 0 < w.heap.size) (o : Obj) : TabW (w.alloc o) := h.below ((Below.refl w.heap.size w).alloc (Nat.le_refl _) o) hz
theorem bs_nine (w : World) : Bs (w.alloc (.cells #[.int .u8 49, .int .u8 50, .int .u8 51, .int .u8 52, .int .u8 53, .int .u8 54, .int .u8 55, .int .u8 56, .int .u8 57] 5 (9, 10))) (w.heap.size + 1) (some ⟨w.heap.size, 0, none⟩) nine := by
  intro k hk
  refine ⟨?_, _, rfl, Nat.lt_succ_self _, ?_⟩
  · have : ∀ k, k < 9 → nine.getD k 0 < 256 := by decide
    exact this k hk
  · have hk9 : k < 9 := hk
    have e : (Addr.mk w.heap.size 0 none).add k = ⟨w.heap.size, k, none⟩ := by
      unfold Addr.add
      by_cases h0 : k = 0
      · subst h0; rfl
      · simp [h0]
    rw [e, cell_of_row _ _ _ _ _ _ (heap_alloc_new w _)]
    obtain rfl | rfl | rfl | rfl | rfl | rfl | rfl | rfl | rfl : k = 0 ∨ k = 1 ∨ k = 2 ∨ k = 3 ∨ k = 4 ∨ k = 5 ∨ k = 6 ∨ k = 7 ∨ k = 8 := by omega
    all_goals rfl
set_option maxRecDepth 100000 in
set_option maxHeartbeats 400000 in
theorem awake_any (w : World) (ht : Hid (TabW w)) (hz : 0 < w.heap.size) :
    Calls Tryd.prog 8 #[] w fun e w' => e = .returned (.bool true) ∧ Below w.heap.size w w' := by
  have kc := fun (w : World) (C : Array Value) (n c : Nat) => Lib.run_convert_bytes_const (P := Tryd.prog) w 23 5 C n c Tryd.underlying23 Tryd.underlying5
  have e1 : Hid (((Crc.U (Crc.upd 0#32 nine) : Nat) : Int) = 3808858755) := by
    show ((Crc.U (Crc.upd 0#32 nine) : Nat) : Int) = 3808858755
    rw [show nine = [49, 50, 51, 52, 53, 54, 55, 56, 57] from rfl, Crc.digits]; rfl
  go_enter Tryd.func8, Tryd.ntmps8
  go_wp2_with fail
  refine (sum_any _ (w.heap.size + 1) _ 9 nine _ rfl (by omega) (bs_nine w) (tab_alloc ht.out hz _)).mono ?_
  rintro e w' ⟨rfl, rfl⟩
  rw [e1.out]
  go_wp2
  go_ret
  exact ⟨rfl, (Below.refl _ _).alloc (Nat.le_refl _) _⟩

set_option maxRecDepth 100000 in
set_option maxHeartbeats 400000 in
theorem crcsum_any (ci : Int) (c : Crc.B32) (hci : ci = (Crc.U c : Int)) (A : Option Addr) (n cap : Nat) (l : List Nat) (w : World) (hA : A = none → cap = 0 ∧ n = 0) (hl : Hid (l.length = n)) (hn : n ≤ cap) (hcap : cap ≤ 9223372036854775807) (hb : Hid (Bs w w.heap.size A l)) (ht : Hid (TabW w)) (hz : 0 < w.heap.size) :
    Calls Tryd.prog 3 #[.int .u32 ci, .slice A n cap] w fun e w' => e = .returned (.bool true) ∧ Below w.heap.size w w' := by
  subst hci
  obtain ⟨m, l', hm, hl', hb', hm3⟩ := cut300 hl.out hb.out 300
  have hmx : m ≤ 9223372036854775807 := by omega
  rcases hm with ⟨h, rfl⟩ | ⟨h, rfl⟩
  all_goals
    go_enter Tryd.func3, Tryd.ntmps3
    go_wp2_with fail
    refine (awake_any _ ht hz).mono ?_
    rintro e w1 ⟨rfl, hb1⟩
    have ht1 : Hid (TabW w1) := ht.out.below hb1 hz
    have hbs : Hid (Bs w1 w.heap.size A l') := hb'.out.below hb1 (Nat.le_refl _)
    have HB := Lib.hid hb1; clear hb1
    go_wp2_with fail
    refine (sum_any A w.heap.size cap _ l' w1 hl' hmx hbs ht1).mono ?_
    rintro e w2 ⟨rfl, rfl⟩
    go_wp2_with fail
    refine (refsum_any A w.heap.size cap _ l' w1 hl' hmx hbs).mono ?_
    rintro e w2 ⟨rfl, rfl⟩
    go_wp2_with fail
    refine (update_any _ c rfl A w.heap.size cap _ l' w1 hl' hmx hbs ht1).mono ?_
    rintro e w2 ⟨rfl, rfl⟩
    go_wp2_with fail
    refine (refupdate_any _ c rfl A w.heap.size cap _ l' w1 hl' hmx hbs).mono ?_
    rintro e w2 ⟨rfl, rfl⟩
    go_wp2
    go_ret
    exact ⟨rfl, HB.out⟩

set_option maxRecDepth 100000 in
set_option maxHeartbeats 400000 in
theorem crclong_any (x y n : Int) (xb : Crc.B32) (hx : x = (Crc.U xb : Int)) (w : World) (ht : Hid (TabW w)) (hz : 0 < w.heap.size) :
    Calls Tryd.prog 7 #[.int .u32 x, .int .u32 y, .int .i64 n] w fun e w' => e = .returned (.bool true) ∧ Below w.heap.size w w' := by
  subst hx
  rcases (show n < 0 ∨ 1048576 < n ∨ (0 ≤ n ∧ n ≤ 1048576) from by omega) with h | h | ⟨h, h2⟩
  · go_enter Tryd.func7, Tryd.ntmps7
    go_wp2_with fail
    refine (awake_any _ ht hz).mono ?_
    rintro e w1 ⟨rfl, hb1⟩
    have HB := Lib.hid hb1; clear hb1
    go_wp2_with fail
    refine (combine_out _ y n (by omega) w1).mono ?_
    rintro e w2 ⟨rfl, rfl⟩
    go_wp2
    go_ret
    exact ⟨rfl, HB.out⟩
  · have h0 : 0 ≤ n := by omega
    go_enter Tryd.func7, Tryd.ntmps7
    go_wp2_with fail
    refine (awake_any _ ht hz).mono ?_
    rintro e w1 ⟨rfl, hb1⟩
    have HB := Lib.hid hb1; clear hb1
    go_wp2_with fail
    refine (combine_out _ y n (by omega) w1).mono ?_
    rintro e w2 ⟨rfl, rfl⟩
    go_wp2
    go_ret
    exact ⟨rfl, HB.out⟩
  · have e0 : Hid (Crc.it (8 * 0) xb ^^^ 0#32 = xb) := by
      show Crc.it (8 * 0) xb ^^^ 0#32 = xb
      rw [BitVec.xor_zero]; rfl
    go_enter Tryd.func7, Tryd.ntmps7
    go_wp2_with fail
    refine (awake_any _ ht hz).mono ?_
    rintro e w1 ⟨rfl, hb1⟩
    have HB := Lib.hid hb1; clear hb1
    go_wp2_with fail
    refine (combine_any _ 0 xb 0#32 rfl (by decide) 0 0 rfl (by omega) w1).mono ?_
    rintro e w2 ⟨rfl, rfl⟩
    rw [e0.out]
    go_wp2
    go_ret
    exact ⟨rfl, HB.out⟩

theorem TabW.drewN {w : World} (h : TabW w) (n : Nat) : TabW (w.drewN n) := h
theorem Bs.drewN {w : World} {B : Nat} {A : Option Addr} {l : List Nat} (h : Bs w B A l) (n : Nat) : Bs (w.drewN n) B A l := h
theorem below_drewN (w : World) (n : Nat) : Below w.heap.size w (w.drewN n) := ⟨rfl, rfl, rfl, Nat.le_refl _, fun _ _ => rfl⟩
theorem info_byte : (Tryd.prog.info? 5).map (fun i => (i.zero, i.size, i.bytes)) = some (some (.int .u8 0), 1, 1) := by kernel_rfl

end Go.Proofs.YtogaoemeiclpjaaDoor
