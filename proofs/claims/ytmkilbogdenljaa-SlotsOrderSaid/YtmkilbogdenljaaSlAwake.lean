/-
  The example of the chapter, walked.
-/
import Derived.Test.YtmkilbogdenljaaSlCutP
import Derived.Test.YtmkilbogdenljaaSlTail
set_option maxRecDepth 100000
namespace Go.Proofs.Ytmkilbogdenljaa
open Go.RowKit
def awR (i : Nat) : Gm.R := ⟨0, (i : Int), 0, 9 - (i : Int), 0, 0, ⟨1, 1, 4, 4⟩⟩
def awL (k : Nat) : List Gm.R := (List.range k).map awR
theorem awL_next (k : Nat) : awL (k + 1) = awL k ++ [awR k] := by
  unfold awL
  rw [List.range_succ, List.map_append]
  rfl
theorem aw_choose : Sl.choose ⟨1, 1, 4, 4⟩ (awL 3) = 3 ∧ decide (Gm.free ⟨1, 1, 4, 4⟩ (awL 3) ≠ []) = true := by decide +kernel
theorem aw_tail : Sl.tail (awL 3) 20 = 7 := by decide +kernel
theorem aw_cut : (Sl.cut ⟨1, 1, 4, 4⟩ (Sl.order (awL 3)) : Int) = 0 := by decide +kernel
theorem aw_cut2 : (Sl.cut ⟨2, 1, 2, 4⟩ (Sl.order (awL 3)) : Int) = 2 := by decide +kernel
theorem aw_spare : Sl.spare ⟨1, 1, 4, 4⟩ (awL 3) 3 = false := by decide +kernel
set_option maxHeartbeats 4000000 in
theorem slawake_any (w : World) : Calls Try.prog 8 #[] w fun e w' => e = .returned (.bool true) ∧ Below w.heap.size w w' := by
  have HS0 := Lib.hid (sd_new w #[.int .i64 1, .int .i64 1, .int .i64 4, .int .i64 4] 23)
  go_enter Try.func8, Try.ntmps8
  go_upto_region 2 with fail
  generalize w.alloc (.cells #[.int .i64 1, .int .i64 1, .int .i64 4, .int .i64 4] 23) = w0 at *
  go_upto_block 0 with fail
  go_cut [2] (fun v wx => Hid (ARow regS 40 wx (w.heap.size + 1) v 3 (awL 3)) ∧ Hid (Sd w w.heap.size (.cells #[.int .i64 1, .int .i64 1, .int .i64 4, .int .i64 4] 23 (0, 0)) wx))
  case first =>
    go_wp2_with fail
    go_loopw [2, 3] (fun v iv wr => ∃ k : Nat, k ≤ 3 ∧ iv = .int .i64 (k : Int) ∧ Hid (ARow regS 40 wr (w.heap.size + 1) v k (awL k)) ∧ Hid (Sd w w.heap.size (.cells #[.int .i64 1, .int .i64 1, .int .i64 4, .int .i64 4] 23 (0, 0)) wr)) (fun _ i _ => 3 - (intOf i).toNat)
    case atStart => exact ⟨0, Nat.zero_le _, rfl, ARow.nil _ _, HS0⟩
    case round =>
      clear HS0
      obtain ⟨k, hk, rfl, HR, HS⟩ := hrel
      by_cases hlt : k < 3
      · obtain ⟨A1, c1, rfl, -, -⟩ := HR.out.open_
        obtain ⟨z0, z1, z2, z3⟩ := sd_cells4 HS.out
        have d1 : decide ((k : Int) < 3) = true := decide_eq_true (by omega)
        have q2 : wrap64 (9 - (k : Int)) = 9 - (k : Int) := by unfold wrap64; omega
        have HSB : Hid (Sd w w.heap.size _ (wr.alloc (.cells #[.int .i64 0, .int .i64 (k : Int), .int .i64 0, .int .i64 (9 - (k : Int)), .int .i64 0, .int .i64 0, .int .i64 1, .int .i64 1, .int .i64 4, .int .i64 4] 40))) := HS.out.next ((Below.refl _ wr).alloc (Nat.le_refl _) _) rfl rfl rfl rfl
        have HRB := Lib.hid (HR.out.made (.cells #[.int .i64 0, .int .i64 (k : Int), .int .i64 0, .int .i64 (9 - (k : Int)), .int .i64 0, .int .i64 0, .int .i64 1, .int .i64 1, .int .i64 4, .int .i64 4] 40))
        have HGB : Hid ((wr.alloc (.cells #[.int .i64 0, .int .i64 (k : Int), .int .i64 0, .int .i64 (9 - (k : Int)), .int .i64 0, .int .i64 0, .int .i64 1, .int .i64 1, .int .i64 4, .int .i64 4] 40)).heap[wr.heap.size]? = some (.cells (regS.cs (awR k)).toArray 40 (0, 0))) := heap_alloc_new _ _
        have HZS := Lib.hid HSB.out.lt
        clear HS HR
        go_wp2_with (at_builtin; refine wpList_append_arr (S := regS) 24 Try.underlying24 info_reg rfl rfl (.tmp 11) (.tmp 18) rfl wr.heap.size 1 (awR k) rfl HRB.out rfl HGB.out (by unfold maxLen; omega) (by omega) HZS.out ?_; intro v4 w4 hr4 hb4 hx4)
        have HR4 := Lib.hid hr4
        have HS4 : Hid (Sd w w.heap.size _ w4) := ⟨block_next HSB.out.1 hb4 (Nat.lt_succ_self _), HSB.out.2.trans (hb4.mono (Nat.le_succ _))⟩
        clear hr4 hb4 hx4 HRB HGB HSB
        go_wp2_with fail
        exact ⟨⟨k + 1, by omega, by go_num, by rw [awL_next]; exact HR4.out, HS4.out⟩, by simp [intOf]; omega⟩
      · obtain rfl : k = 3 := by omega
        go_wp2_with fail
        go_meet
        exact ⟨HR, HS⟩
  case rest =>
    clear HS0
    obtain ⟨HR, HS⟩ := hcut
    generalize wc = w1 at *
    obtain ⟨A1, c1, rfl, hs1, ha1⟩ := HR.out.open_
    have hc1 := hs1.2.1
    have HA := Lib.hid ha1
    have HN : Hid ((awL 3).length = 3) := rfl
    have CC : Hid (∀ W, Below w1.heap.size w1 W → Calls Try.prog 16 #[.agg #[.int .i64 1, .int .i64 1, .int .i64 4, .int .i64 4], .slice A1 3 c1] W fun e w' => e = .returned (.tuple #[.int .i64 3, .bool true]) ∧ Below W.heap.size W w') := fun W hW => by
      have h := slchoose_any 1 1 4 4 A1 (w.heap.size + 1) w1.heap.size 3 c1 (awL 3) W hW.size HN (by omega) (Lib.hid (HA.out.below hW (Nat.le_refl _)))
      rwa [aw_choose.1, aw_choose.2] at h
    have CT : Hid (∀ W, Below w1.heap.size w1 W → Calls Try.prog 12 #[.slice A1 3 c1, .int .i64 20] W fun e w' => e = .returned (.int .i64 7) ∧ Below W.heap.size W w') := fun W hW => by
      have h := sltail_any A1 (w.heap.size + 1) w1.heap.size 3 c1 (awL 3) 20 W hW.size hc1 HN (by omega) (Lib.hid (HA.out.below hW (Nat.le_refl _)))
      rwa [aw_tail] at h
    have CX : Hid (∀ W, Below w1.heap.size w1 W → Calls Try.prog 20 #[.agg #[.int .i64 1, .int .i64 1, .int .i64 4, .int .i64 4], .slice A1 3 c1] W fun e w' => e = .returned (.int .i64 0) ∧ Below W.heap.size W w') := fun W hW => by
      have h := slcut_any 1 1 4 4 A1 (w.heap.size + 1) w1.heap.size 3 c1 (awL 3) W hW.size HN (by omega) (Lib.hid (HA.out.below hW (Nat.le_refl _)))
      rwa [aw_cut] at h
    have CY : Hid (∀ W, Below w1.heap.size w1 W → Calls Try.prog 20 #[.agg #[.int .i64 2, .int .i64 1, .int .i64 2, .int .i64 4], .slice A1 3 c1] W fun e w' => e = .returned (.int .i64 2) ∧ Below W.heap.size W w') := fun W hW => by
      have h := slcut_any 2 1 2 4 A1 (w.heap.size + 1) w1.heap.size 3 c1 (awL 3) W hW.size HN (by omega) (Lib.hid (HA.out.below hW (Nat.le_refl _)))
      rwa [aw_cut2] at h
    have CP : Hid (∀ W, Below w1.heap.size w1 W → Calls Try.prog 18 #[.agg #[.int .i64 1, .int .i64 1, .int .i64 4, .int .i64 4], .slice A1 3 c1, .int .i64 3] W fun e w' => e = .returned (.bool false) ∧ Below W.heap.size W w') := fun W hW => by
      have h := slspare_any 1 1 4 4 3 A1 (w.heap.size + 1) w1.heap.size 3 c1 (awL 3) W hW.size HN (by omega) (Lib.hid (HA.out.below hW (Nat.le_refl _)))
      rwa [aw_spare] at h
    have HLT := Lib.hid HS.out.lt
    have HB := Lib.hid HS.out.2
    have HG := Lib.hid HS.out.1
    obtain ⟨z0, z1, z2, z3⟩ := sd_cells4 HS.out
    clear HR HS ha1 hs1 hc1 HA HN
    go_wp2_with fail
    refine (CC.out _ (Below.refl _ _)).mono ?_
    rintro e w2 ⟨rfl, hb2⟩
    have HB2 := Lib.hid hb2
    clear hb2 z0 z1 z2 z3
    go_wp2_with fail
    refine (CT.out _ HB2.out).mono ?_
    rintro e w3 ⟨rfl, hb3⟩
    have HB3 := Lib.hid (HB2.out.trans (hb3.mono HB2.out.size))
    obtain ⟨z0, z1, z2, z3⟩ := four_cells (block_next HG.out HB3.out HLT.out)
    clear hb3
    go_wp2_with fail
    refine (CX.out _ HB3.out).mono ?_
    rintro e w4 ⟨rfl, hb4⟩
    have HB4 := Lib.hid (HB3.out.trans (hb4.mono HB3.out.size))
    clear hb4 z0 z1 z2 z3
    go_wp2_with fail
    refine (CY.out _ HB4.out).mono ?_
    rintro e w5 ⟨rfl, hb5⟩
    have HB5 := Lib.hid (HB4.out.trans (hb5.mono HB4.out.size))
    obtain ⟨z0, z1, z2, z3⟩ := four_cells (block_next HG.out HB5.out HLT.out)
    clear hb5
    go_wp2_with fail
    refine (CP.out _ HB5.out).mono ?_
    rintro e w6 ⟨rfl, hb6⟩
    have HB6 := Lib.hid (HB5.out.trans (hb6.mono HB5.out.size))
    clear hb6 z0 z1 z2 z3
    go_wp2_with fail
    go_ret
    exact ⟨rfl, HB.out.trans (HB6.out.mono HB.out.size)⟩
end Go.Proofs.Ytmkilbogdenljaa
