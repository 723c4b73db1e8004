/-
  The laws' sanity check: the example of the chapter.
-/
import Derived.Test.YtfacinlpkblopaaFlashCrash
import Derived.Lib.SlBytesConst
namespace Go.Proofs.Ytfacinlpkblopaa
open Go.RowKit Go.Maps
def AwakeS1 : Flash := (Flash.fresh (List.replicate (3 * 64) 0)).write 3 1 [97, 97]
def AwakeS3 : Flash := AwakeS1.barrier.write 3 1 [98, 98]
theorem awake_e1 : (Flash.fresh (List.replicate (3 * 64) 0)).writeErr 3 1 [97, 97] = 0 := by decide +kernel
theorem awake_e2 : AwakeS1.barrierErr = 0 := by decide +kernel
theorem awake_e3 : AwakeS1.barrier.writeErr 3 1 [98, 98] = 0 := by decide +kernel
theorem awake_b0 : (sec (crashed 3 AwakeS3.cur AwakeS3.old [] [(0, 1)]) 1).getD 0 0 = 98 := by decide +kernel
theorem awake_b1 : (sec (crashed 3 AwakeS3.cur AwakeS3.old [] [(0, 1)]) 1).getD 1 0 = 97 := by decide +kernel
theorem awake_wr : (Flash.fresh (List.replicate (3 * 64) 0)).wr < 4611686018427387904 ∧ AwakeS1.barrier.wr < 4611686018427387904 := by decide +kernel
/-- Bytes in the block that was just made. -/
theorem bs_new (w : World) (t : TypeId) (l : List Nat) (hl : ∀ x ∈ l, x < 256) (cs : Array Value) (fr : Nat × Nat) (h : cs = (vals l).toArray) : Bs (w.alloc (.cells cs t fr)) (w.heap.size + 1) (some ⟨w.heap.size, 0, none⟩) l := fun k hk => by
  subst h
  refine ⟨getD_lt hl k, _, rfl, Nat.lt_succ_self _, ?_⟩
  rw [add_flat, Nat.zero_add, cell_of_row _ _ k _ _ _ (heap_alloc_new w _), List.getElem?_toArray]
  exact vals_at hk
def AwakeDid (w : World) (e : Ending) (w' : World) : Prop := e = .returned (.bool true) ∧ Below w.heap.size w w'
set_option maxHeartbeats 1000000 in
theorem awake_any (w : World) : Calls Try.prog 23 #[] w (AwakeDid w) := by
  have kc := fun (w : World) (C : Array Value) (n c : Nat) => Lib.run_convert_bytes_const (P := Try.prog) w 27 5 C n c Try.underlying27 Try.underlying5
  go_enter Try.func23, Try.ntmps23
  go_wp2_with (first
    | (go_at_call 9; refine (new_yes 3 _ rfl _ (by omega) (by omega)).mono ?_; rintro e w1 ⟨g, c, m, rfl, hd1, hg, hc, hm, hb1⟩
       have HD1 : Hid (Dev w1 g c m 3 (Flash.fresh (List.replicate (3 * 64) 0)) ∧ Below w.heap.size w w1) := ⟨hd1, hb1⟩
       have HS : Hid (∀ k, devS g c m k → w.heap.size ≤ k) := fun k h => by rcases h with h | h | h <;> omega
       clear hd1 hb1))
  have B1 : Hid (Bs (w1.alloc (.cells #[.int .u8 97, .int .u8 97] 5 (2, 3))) (w1.heap.size + 1) (some ⟨w1.heap.size, 0, none⟩) [97, 97]) := bs_new w1 _ _ (by decide) _ _ rfl
  have D1 : Hid (Dev (w1.alloc (.cells #[.int .u8 97, .int .u8 97] 5 (2, 3))) g c m 3 (Flash.fresh (List.replicate (3 * 64) 0))) := HD1.out.1.kept (S := fun _ => False) (Kept.alloc _ _) (fun h => h) (fun h => h) (fun h => h)
  have c1 := write_any 1 _ _ 2 2 [97, 97] (by omega) rfl B1 D1 awake_wr.1
  rw [awake_e1] at c1
  refine c1.mono ?_
  rintro e w2 ⟨rfl, hd2, hk2⟩
  have HD2 : Hid (Dev w2 g c m 3 AwakeS1 ∧ Below w.heap.size w w2) := by
    have h := (HD1.out.2.alloc HD1.out.2.size (.cells #[.int .u8 97, .int .u8 97] 5 (2, 3)))
    exact ⟨hd2, h.trans (hk2.below h.size HS.out)⟩
  clear c1 B1 D1 HD1 hd2 hk2
  go_wp2_with fail
  have c2 := barrier_any (Lib.hid HD2.out.1)
  rw [awake_e2] at c2
  refine c2.mono ?_
  rintro e w3 ⟨rfl, hd3, hk3⟩
  have HD3 : Hid (Dev w3 g c m 3 AwakeS1.barrier ∧ Below w.heap.size w w3) := ⟨hd3, HD2.out.2.trans (hk3.below HD2.out.2.size (fun k h => HS.out k (h.elim .inl (fun h => .inr (.inr h)))))⟩
  clear c2 hd3 hk3 HD2
  go_wp2_with fail
  have B3 : Hid (Bs (w3.alloc (.cells #[.int .u8 98, .int .u8 98] 5 (2, 3))) (w3.heap.size + 1) (some ⟨w3.heap.size, 0, none⟩) [98, 98]) := bs_new w3 _ _ (by decide) _ _ rfl
  have D3 : Hid (Dev (w3.alloc (.cells #[.int .u8 98, .int .u8 98] 5 (2, 3))) g c m 3 AwakeS1.barrier) := HD3.out.1.kept (S := fun _ => False) (Kept.alloc _ _) (fun h => h) (fun h => h) (fun h => h)
  have c3 := write_any 1 _ _ 2 2 [98, 98] (by omega) rfl B3 D3 awake_wr.2
  rw [awake_e3] at c3
  refine c3.mono ?_
  rintro e w4 ⟨rfl, hd4, hk4⟩
  have HD4 : Hid (Dev w4 g c m 3 AwakeS3 ∧ Below w.heap.size w w4) := by
    have h := (HD3.out.2.alloc HD3.out.2.size (.cells #[.int .u8 98, .int .u8 98] 5 (2, 3)))
    exact ⟨hd4, h.trans (hk4.below h.size HS.out)⟩
  clear c3 B3 D3 HD3 hd4 hk4
  go_wp2_with fail
  have T5 : Hid (Trs (w4.alloc (.cells #[.int .i64 0, .int .i64 1] 69)) (w4.alloc (.cells #[.int .i64 0, .int .i64 1] 69)).heap.size (some ⟨w4.heap.size, 0, none⟩) [(0, 1)]) := fun k hk => by
    obtain rfl : k = 0 := by simpa using hk
    refine ⟨_, rfl, by simp, ?_, ?_⟩
    · rw [add_flat, cell_of_row _ _ _ _ _ _ (heap_alloc_new w4 _)]; rfl
    · rw [add_flat, cell_of_row _ _ _ _ _ _ (heap_alloc_new w4 _)]; rfl
  have K5 : Hid (Bls (w4.alloc (.cells #[.int .i64 0, .int .i64 1] 69)) (w4.alloc (.cells #[.int .i64 0, .int .i64 1] 69)).heap.size none []) := fun k hk => absurd hk (by simp)
  have D5 : Hid (Dev (w4.alloc (.cells #[.int .i64 0, .int .i64 1] 69)) g c m 3 AwakeS3) := HD4.out.1.kept (S := fun _ => False) (Kept.alloc _ _) (fun h => h) (fun h => h) (fun h => h)
  refine (crash_any none _ 0 0 1 1 [] [(0, 1)] (by omega) rfl rfl K5 T5 D5).mono ?_
  rintro e w6 ⟨g6, c6, m6, rfl, hd6, -, -, -, hb6⟩
  have HD6 : Hid (Dev w6 g6 c6 m6 3 (Flash.fresh (crashed 3 AwakeS3.cur AwakeS3.old [] [(0, 1)])) ∧ Below w.heap.size w w6) := by
    have h := (HD4.out.2.alloc HD4.out.2.size (.cells #[.int .i64 0, .int .i64 1] 69))
    exact ⟨hd6, h.trans (hb6.mono h.size)⟩
  clear T5 K5 D5 HD4 hd6 hb6
  go_wp2_with fail
  refine (read_ok 1 _ rfl (by omega) (Lib.hid HD6.out.1) rfl).mono ?_
  rintro e w7 ⟨g7, cap, rfl, hg7, hl7, hbs, hcap1, hcap2, hb7⟩
  have hc0 := (hbs 0 (by rw [hl7]; omega)).2
  have hc1 := (hbs 1 (by rw [hl7]; omega)).2
  obtain ⟨ad, e, -, hc0⟩ := hc0
  injection e with e
  subst e
  obtain ⟨ad, e, -, hc1⟩ := hc1
  injection e with e
  subst e
  have e0 : (sec (Flash.fresh (crashed 3 AwakeS3.cur AwakeS3.old [] [(0, 1)])).cur 1).getD 0 0 = 98 := awake_b0
  have e1 : (sec (Flash.fresh (crashed 3 AwakeS3.cur AwakeS3.old [] [(0, 1)])).cur 1).getD 1 0 = 97 := awake_b1
  rw [e0] at hc0
  rw [e1] at hc1
  rw [add_flat] at hc0 hc1
  have HB7 : Hid (Below w.heap.size w w7) := HD6.out.2.trans (hb7.mono HD6.out.2.size)
  clear e0 e1 hl7 hbs hb7 HD6
  go_wp2
  go_ret
  exact ⟨rfl, HB7.out⟩
end Go.Proofs.Ytfacinlpkblopaa
