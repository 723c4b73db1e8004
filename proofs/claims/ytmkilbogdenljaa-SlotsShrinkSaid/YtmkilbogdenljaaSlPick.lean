/-
  The program's Choose, Spare, Tail.
-/
import Derived.Test.YtmkilbogdenljaaSlRefs
import Derived.Test.YtmkilbogdenljaaGmFree
set_option maxRecDepth 100000
namespace Go.Proofs.Ytmkilbogdenljaa
open Go.RowKit
set_option maxHeartbeats 1000000 in
theorem slchoose_any (a b c d : Int) (A : Option Addr) (lo B n cap : Nat) (live : List Gm.R) (w : World) (hB : B ≤ w.heap.size) (hn : Hid (live.length = n)) (hn2 : n ≤ 100000) (hb : Hid (Arr regS w lo B A live)) :
    Calls Try.prog 16 #[.agg #[.int .i64 a, .int .i64 b, .int .i64 c, .int .i64 d], .slice A n cap] w fun e w' => e = .returned (.tuple #[.int .i64 (Sl.choose ⟨a, b, c, d⟩ live), .bool (decide (Gm.free ⟨a, b, c, d⟩ live ≠ []))]) ∧ Below w.heap.size w w' := by
  have CF : Hid (∀ W, Below w.heap.size w W → Calls Try.prog 30 #[.agg #[.int .i64 a, .int .i64 b, .int .i64 c, .int .i64 d], .slice A n cap] W (FreeIs W (Gm.free ⟨a, b, c, d⟩ live))) := fun W hW => gmfree_any a b c d A lo B n cap live W (Nat.le_trans hB hW.size) hn (by omega) (Lib.hid (hb.out.below hW hB))
  have HS0 := Lib.hid (sd_new w #[.int .i64 a, .int .i64 b, .int .i64 c, .int .i64 d] 23)
  unfold Sl.choose
  generalize Gm.free ⟨a, b, c, d⟩ live = L at *
  cases L with
  | nil =>
    go_enter Try.func16, Try.ntmps16
    go_upto_region 1 with fail
    generalize w.alloc (.cells #[.int .i64 a, .int .i64 b, .int .i64 c, .int .i64 d] 23) = w0 at *
    obtain ⟨z0, z1, z2, z3⟩ := four_cells HS0.out.1
    go_wp2_with fail
    refine (CF.out _ HS0.out.2).mono ?_
    rintro e w1 ⟨v, rfl, hr, hb1⟩
    obtain ⟨A1, c1, rfl, -, -⟩ := hr.open_
    have HB1 : Hid (Below w.heap.size w w1) := HS0.out.2.trans (hb1.mono HS0.out.2.size)
    rw [List.length_nil]
    go_wp2_with fail
    go_ret2
    exact ⟨rfl, HB1.out⟩
  | cons s t =>
    rw [show decide (s :: t ≠ []) = true by simp]
    go_enter Try.func16, Try.ntmps16
    go_upto_region 1 with fail
    generalize w.alloc (.cells #[.int .i64 a, .int .i64 b, .int .i64 c, .int .i64 d] 23) = w0 at *
    obtain ⟨z0, z1, z2, z3⟩ := four_cells HS0.out.1
    go_wp2_with fail
    refine (CF.out _ HS0.out.2).mono ?_
    rintro e w1 ⟨v, rfl, hr, hb1⟩
    obtain ⟨g1, c1, rfl, -, ha⟩ := hr.box (Nat.succ_pos _)
    have z := ints_at ha 0 (Nat.succ_pos _)
    have z1 : w1.cell? ⟨g1, 0, none⟩ = some (.int .i64 (s : Int)) := z
    have HB1 : Hid (Below w.heap.size w w1) := HS0.out.2.trans (hb1.mono HS0.out.2.size)
    obtain ⟨m, hm⟩ : ∃ m, (s :: t).length = m := ⟨_, rfl⟩
    have hm1 : 0 < m := by rw [← hm]; exact Nat.succ_pos _
    have hm0 : ((m : Int) == 0) = false := by rw [beq_eq_false_iff_ne]; omega
    clear hr ha z
    rw [hm]
    clear hm
    go_wp2_with fail
    go_ret2
    exact ⟨rfl, HB1.out⟩
/-- Is there another number than s? -/
def sprB (L : List Nat) (s : Int) : Bool := L.any fun x => decide ((x : Int) ≠ s)
theorem spare_is (t : Sb.L) (live : List Gm.R) (s : Int) : Sl.spare t live s = sprB (Gm.free t live) s := by
  unfold Sl.spare sprB
  congr
set_option maxHeartbeats 1000000 in
theorem spclo_any (x s : Int) (gs : Nat) (w : World) (hs : Hid (w.heap[gs]? = some (.cells #[.int .i64 s] 3 (0, 0)))) :
    Calls Try.prog 33 #[.int .i64 x, .pointer (some ⟨gs, 0, none⟩)] w fun r w' => r = .returned (.bool (x != s)) ∧ w' = w := by
  have z0 := one_cell hs.out
  clear hs
  go_enter Try.func33, Try.ntmps33
  go_wp2_with fail
  go_ret
  exact ⟨rfl, rfl⟩
set_option maxHeartbeats 2000000 in
theorem spindex_any (s : Int) (gs : Nat) (A : Option Addr) (lo B n cap : Nat) (L : List Nat) (w : World) (hn : Hid (L.length = n)) (hn2 : n ≤ 100000) (hb : Hid (Arr intS w lo B A (Gm.ints L))) (hs : Hid (w.heap[gs]? = some (.cells #[.int .i64 s] 3 (0, 0)))) :
    Calls Try.prog 46 #[.slice A n cap, .func (.func 33) #[] #[.pointer (some ⟨gs, 0, none⟩)]] w
      fun r w' => (∃ k : Int, r = .returned (.int .i64 k) ∧ Hid (decide (0 ≤ k) = sprB L s)) ∧ w' = w := by
  go_enter Try.func46, Try.ntmps46
  go_wp2_with fail
  go_loopw [5, 8] (fun _ iv wr => ∃ k : Nat, k ≤ n ∧ iv = .int .i64 (k : Int) ∧ Hid (∀ j, j < k → (L.getD j 0 : Int) = s) ∧ wr = w) (fun _ i _ => n - (Go.RowKit.intOf i).toNat)
  case atStart => exact ⟨0, Nat.zero_le _, rfl, fun j h => absurd h (Nat.not_lt_zero _), rfl⟩
  case round =>
    obtain ⟨k, hk, rfl, HK, rfl⟩ := hrel
    by_cases hlt : k < n
    · obtain ⟨ad, rfl⟩ := hb.out.some (k := k) (by rw [ints_length, hn.out]; exact hlt)
      have z := ints_at hb.out k (by rw [ints_length, hn.out]; exact hlt)
      have hx : (Gm.ints L).getD k 0 = (L.getD k 0 : Int) := by
        unfold Gm.ints
        rw [List.getD_eq_getElem?_getD, List.getElem?_map, List.getD_eq_getElem?_getD, List.getElem?_eq_getElem (by rw [hn.out]; exact hlt)]
        rfl
      rw [hx] at z
      clear hx
      obtain ⟨x, hX⟩ : ∃ x : Int, (L.getD k 0 : Int) = x := ⟨_, rfl⟩
      rw [hX] at z
      have CC := Lib.hid (spclo_any x s gs wr hs)
      cases hc : (x != s) with
      | true =>
        have HR : Hid (sprB L s = true) := by
          show _ = _
          unfold sprB
          rw [List.any_eq_true]
          refine ⟨L.getD k 0, ?_, decide_eq_true (by rw [hX]; simpa using hc)⟩
          rw [List.getD_eq_getElem?_getD, List.getElem?_eq_getElem (by rw [hn.out]; exact hlt)]
          exact List.getElem_mem _
        rw [hc] at CC
        clear hX
        go_wp2_with fail
        refine CC.out.mono ?_
        rintro r w1 ⟨rfl, rfl⟩
        go_wp2_with fail
        go_ret
        exact ⟨⟨_, rfl, (decide_eq_true (by omega)).trans HR.out.symm⟩, rfl⟩
      | false =>
        have HK2 : Hid (∀ j, j < k + 1 → (L.getD j 0 : Int) = s) := fun j hj => by
          rcases Nat.lt_or_ge j k with h | h
          · exact HK.out j h
          · rw [show j = k by omega, hX]; simpa using hc
        rw [hc] at CC
        clear hX
        go_wp2_with fail
        refine CC.out.mono ?_
        rintro r w1 ⟨rfl, rfl⟩
        go_wp2_with fail
        go_roundw
        case rel => exact ⟨k + 1, by omega, by go_num, HK2, trivial⟩
        case measure => simp [Go.RowKit.intOf]; omega
    · obtain rfl : k = n := by omega
      have HR : Hid (sprB L s = false) := by
        show _ = _
        unfold sprB
        rw [List.any_eq_false]
        intro y hy e
        obtain ⟨j, hj, rfl⟩ := List.getElem_of_mem hy
        have := HK.out j (by rw [← hn.out]; exact hj)
        rw [List.getD_eq_getElem?_getD, List.getElem?_eq_getElem hj] at this
        exact (of_decide_eq_true e) this
      go_wp2_with fail
      go_ret
      exact ⟨⟨_, rfl, HR.out.symm⟩, rfl⟩
set_option maxHeartbeats 1000000 in
theorem spcontains_any (s : Int) (gs : Nat) (A : Option Addr) (lo B n cap : Nat) (L : List Nat) (w : World) (hn : Hid (L.length = n)) (hn2 : n ≤ 100000) (hb : Hid (Arr intS w lo B A (Gm.ints L))) (hs : Hid (w.heap[gs]? = some (.cells #[.int .i64 s] 3 (0, 0)))) :
    Calls Try.prog 32 #[.slice A n cap, .func (.func 33) #[] #[.pointer (some ⟨gs, 0, none⟩)]] w
      fun r w' => r = .returned (.bool (sprB L s)) ∧ w' = w := by
  have CI := Lib.hid (spindex_any s gs A lo B n cap L w hn hn2 hb hs)
  generalize sprB L s = res at *
  clear hn hb hs
  go_enter Try.func32, Try.ntmps32
  go_wp2_with fail
  refine CI.out.mono ?_
  rintro r w1 ⟨⟨k, rfl, hk⟩, rfl⟩
  go_wp2_with fail
  go_ret
  exact ⟨ret_bool hk.out, rfl⟩
set_option maxHeartbeats 1000000 in
theorem slspare_any (a b c d slot : Int) (A : Option Addr) (lo B n cap : Nat) (live : List Gm.R) (w : World) (hB : B ≤ w.heap.size) (hn : Hid (live.length = n)) (hn2 : n ≤ 100000) (hb : Hid (Arr regS w lo B A live)) :
    Calls Try.prog 18 #[.agg #[.int .i64 a, .int .i64 b, .int .i64 c, .int .i64 d], .slice A n cap, .int .i64 slot] w fun e w' => e = .returned (.bool (Sl.spare ⟨a, b, c, d⟩ live slot)) ∧ Below w.heap.size w w' := by
  have CF : Hid (∀ W, Below w.heap.size w W → Calls Try.prog 30 #[.agg #[.int .i64 a, .int .i64 b, .int .i64 c, .int .i64 d], .slice A n cap] W (FreeIs W (Gm.free ⟨a, b, c, d⟩ live))) := fun W hW => gmfree_any a b c d A lo B n cap live W (Nat.le_trans hB hW.size) hn (by omega) (Lib.hid (hb.out.below hW hB))
  have HS0 := Lib.hid (sd2_new w #[.int .i64 a, .int .i64 b, .int .i64 c, .int .i64 d] #[.int .i64 slot] 23 3)
  have hmf : ∀ (fn : Fn) (first cap : Array Value) (w : World), (Instr.makeFunc fn first cap).run Try.prog w = .ok (.func fn first cap) w := fun _ _ _ _ => rfl
  have hsm := Sl.free_small ⟨a, b, c, d⟩ live
  rw [spare_is]
  generalize Gm.free ⟨a, b, c, d⟩ live = L at *
  clear hn hb
  obtain ⟨res, hres⟩ : ∃ r, sprB L slot = r := ⟨_, rfl⟩
  have HRES := Lib.hid hres
  rw [hres]
  clear hres
  go_enter Try.func18, Try.ntmps18
  go_upto_region 1 with fail
  generalize (w.alloc (.cells #[.int .i64 a, .int .i64 b, .int .i64 c, .int .i64 d] 23)).alloc (.cells #[.int .i64 slot] 3) = w0 at *
  obtain ⟨z0, z1, z2, z3⟩ := four_cells HS0.out.1
  go_wp2_with fail
  refine (CF.out _ HS0.out.2.2).mono ?_
  rintro e w1 ⟨v, rfl, hr, hb1⟩
  obtain ⟨A1, c1, rfl, -, ha⟩ := hr.open_
  have HG1 := Lib.hid (block_next HS0.out.2.1 hb1 (Array.getElem?_eq_some_iff.1 HS0.out.2.1).1)
  have HB1 : Hid (Below w.heap.size w w1) := HS0.out.2.2.trans (hb1.mono HS0.out.2.2.size)
  obtain ⟨m, hm⟩ : ∃ m, L.length = m := ⟨_, rfl⟩
  rw [hm] at hsm ⊢
  have CC := Lib.hid (spcontains_any slot (w.heap.size + 1) A1 w0.heap.size w1.heap.size m c1 L w1 hm (by omega) (Lib.hid ha) HG1)
  clear hr ha hb1 HS0 CF hm
  rw [HRES.out] at CC
  go_wp2_with fail
  refine CC.out.mono ?_
  rintro e w2 ⟨rfl, rfl⟩
  go_wp2_with fail
  go_ret
  exact ⟨rfl, HB1.out⟩
end Go.Proofs.Ytmkilbogdenljaa
