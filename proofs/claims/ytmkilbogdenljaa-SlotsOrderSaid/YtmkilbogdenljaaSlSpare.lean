/-
  The reference's Spare.
-/
import Derived.Test.YtmkilbogdenljaaSlRefs
set_option maxRecDepth 100000
namespace Go.Proofs.Ytmkilbogdenljaa
open Go.RowKit
set_option maxHeartbeats 1000000 in
theorem refslspare_any (a b c d slot : Int) (A : Option Addr) (lo B n cap : Nat) (live : List Gm.R) (w : World) (hB : B ≤ w.heap.size) (hn : Hid (live.length = n)) (hn2 : n ≤ 100000) (hb : Hid (Arr regS w lo B A live)) :
    Calls Try.prog 19 #[.agg #[.int .i64 a, .int .i64 b, .int .i64 c, .int .i64 d], .slice A n cap, .int .i64 slot] w fun e w' => e = .returned (.bool (Sl.spare ⟨a, b, c, d⟩ live slot)) ∧ Below w.heap.size w w' := by
  have CF : Hid (∀ W, Below w.heap.size w W → Calls Try.prog 31 #[.agg #[.int .i64 a, .int .i64 b, .int .i64 c, .int .i64 d], .slice A n cap] W (FreeIs W (Gm.free ⟨a, b, c, d⟩ live))) := fun W hW => refgmfree_any a b c d A lo B n cap live W (Nat.le_trans hB hW.size) hn (by omega) (Lib.hid (hb.out.below hW hB))
  have HS0 := Lib.hid (sd_new w #[.int .i64 a, .int .i64 b, .int .i64 c, .int .i64 d] 23)
  have hsm := Sl.free_small ⟨a, b, c, d⟩ live
  unfold Sl.spare
  generalize Gm.free ⟨a, b, c, d⟩ live = L at *
  go_enter Try.func19, Try.ntmps19
  go_upto_region 1 with fail
  generalize w.alloc (.cells #[.int .i64 a, .int .i64 b, .int .i64 c, .int .i64 d] 23) = w0 at *
  obtain ⟨z0, z1, z2, z3⟩ := four_cells HS0.out.1
  go_wp2_with fail
  refine (CF.out _ HS0.out.2).mono ?_
  rintro e w1 ⟨v, rfl, hr, hb1⟩
  have HB1 : Hid (Below w.heap.size w w1) := HS0.out.2.trans (hb1.mono HS0.out.2.size)
  obtain ⟨A1, c1, rfl, -, ha⟩ := hr.open_
  have HA := Lib.hid ha
  obtain ⟨m, hm⟩ : ∃ m, L.length = m := ⟨_, rfl⟩
  have HM := Lib.hid hm
  have hm16 : m ≤ 16 := by rw [← hm]; exact hsm
  clear hr ha hb1 HS0 CF hsm z0 z1 z2 z3
  rw [hm]
  clear hm
  go_wp2_with fail
  go_loopw [13] (fun iv wr => ∃ k : Nat, k ≤ m ∧ iv = .int .i64 (k : Int) ∧ Hid (∀ j, j < k → (L.getD j 0 : Int) = slot) ∧ wr = w1) (fun i _ => m - (intOf i).toNat)
  case atStart => exact ⟨0, Nat.zero_le _, rfl, fun j h => absurd h (Nat.not_lt_zero _), rfl⟩
  case round =>
    obtain ⟨k, hk, rfl, HK, rfl⟩ := hrel
    by_cases hlt : k < m
    · obtain ⟨ad, rfl⟩ := HA.out.some (k := k) (by rw [ints_length, HM.out]; exact hlt)
      have z := ints_at HA.out k (by rw [ints_length, HM.out]; exact hlt)
      have hx : (Gm.ints L).getD k 0 = (L.getD k 0 : Int) := by
        unfold Gm.ints
        rw [List.getD_eq_getElem?_getD, List.getElem?_map, List.getD_eq_getElem?_getD, List.getElem?_eq_getElem (by rw [HM.out]; exact hlt)]
        rfl
      rw [hx] at z
      clear hx
      cases hc : ((L.getD k 0 : Int) != slot) with
      | true =>
        have HR : Hid (L.any (fun s => decide ((s : Int) ≠ slot)) = true) := by
          show _ = _
          rw [List.any_eq_true]
          refine ⟨L.getD k 0, ?_, decide_eq_true (by simpa using hc)⟩
          rw [List.getD_eq_getElem?_getD, List.getElem?_eq_getElem (by rw [HM.out]; exact hlt)]
          exact List.getElem_mem _
        generalize (L.getD k 0 : Int) = x at z hc
        go_wp2_with fail
        go_ret
        exact ⟨by rw [HR.out]; rfl, HB1.out⟩
      | false =>
        have HK2 : Hid (∀ j, j < k + 1 → (L.getD j 0 : Int) = slot) := fun j hj => by
          rcases Nat.lt_or_ge j k with h | h
          · exact HK.out j h
          · rw [show j = k by omega]; simpa using hc
        generalize (L.getD k 0 : Int) = x at z hc
        go_wp2_with fail
        exact ⟨⟨k + 1, by omega, by go_num, HK2, trivial⟩, by simp [intOf]; omega⟩
    · obtain rfl : k = m := by omega
      have HR : Hid (L.any (fun s => decide ((s : Int) ≠ slot)) = false) := by
        show _ = _
        rw [List.any_eq_false]
        intro s hs e
        obtain ⟨j, hj, rfl⟩ := List.getElem_of_mem hs
        have := HK.out j (by rw [← HM.out]; exact hj)
        rw [List.getD_eq_getElem?_getD, List.getElem?_eq_getElem hj] at this
        exact (of_decide_eq_true e) this
      go_wp2_with fail
      go_ret
      exact ⟨by rw [HR.out]; rfl, HB1.out⟩
end Go.Proofs.Ytmkilbogdenljaa
