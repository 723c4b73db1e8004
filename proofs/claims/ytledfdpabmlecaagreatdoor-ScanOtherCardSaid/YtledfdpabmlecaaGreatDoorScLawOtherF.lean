/-
  The law ScanOther.
-/
import Derived.Test.YtledfdpabmlecaaGreatDoorScWrittenF
import Derived.Test.YtledfdpabmlecaaGreatDoorFoldS
import Derived.Test.YtledfdpabmlecaaGreatDoorFoldR
import Derived.Test.YtledfdpabmlecaaGreatDoorFoldP
set_option maxRecDepth 100000
namespace Go.Proofs.YtledfdpabmlecaaGreatDoor
open Go.RowKit
theorem and32b (q : Int) : bits .and .i64 q 4294967295 = q % 4294967296 := by
  have h1 : (BitVec.ofInt 64 4294967295).toNat = 2 ^ 32 - 1 := by decide
  have key : (BitVec.ofInt 64 q &&& BitVec.ofInt 64 4294967295).toNat = (q % ((2 ^ 64 : Nat) : Int)).toNat % 2 ^ 32 := by
    rw [BitVec.toNat_and, BitVec.toNat_ofInt, h1, Nat.and_two_pow_sub_one_eq_mod]
  show IntKind.i64.wrap ((BitVec.ofInt 64 q &&& BitVec.ofInt 64 4294967295).toNat : Nat) = q % 4294967296
  rw [key, IntKind.wrap_i64]
  omega
set_option maxHeartbeats 2000000 in
theorem scanother_any (xv xg xm : Int) (A1 A2 A3 : Option Addr) (n1 n2 n3 c1 c2 c3 : Nat) (l1 : List Rd) (l2 : List Bool) (l3 : List Spl) (sv : Int) (w : World) (hl1 : Hid (l1.length = n1)) (hb1 : Hid (RecsAt w w.heap.size A1 l1)) (hl2 : Hid (l2.length = n2)) (hb2 : Hid (Arr boolS w 0 w.heap.size A2 l2)) (_hl3 : Hid (l3.length = n3)) (_hb3 : Hid (Arr spS w 0 w.heap.size A3 l3 ∧ ∀ k, k < n3 → (l3.getD k Spl0).ok)) (ht : Hid (TabW w)) (hz : 0 < w.heap.size) :
    Calls Tryz.prog 5 #[.agg #[.int .i64 xv, .int .i64 xg, .slice A1 n1 c1, .slice A2 n2 c2, .slice A3 n3 c3, .int .i64 xm], .int .i64 sv] w fun e w' => e = .returned (.bool true) ∧ Below w.heap.size w w' := by
  have HA : Hid (∀ W, Below w.heap.size w W → Calls Tryz.prog 10 #[] W fun e w' => e = .returned (.bool true) ∧ Below W.heap.size W w') := fun W hb => scawake_any W (Lib.hid (ht.out.below hb hz)) (Nat.lt_of_lt_of_le hz hb.size)
  have HX0 := Lib.hid (heap_alloc_new w (.cells #[.int .i64 xv, .int .i64 xg, .slice A1 n1 c1, .slice A2 n2 c2, .slice A3 n3 c3, .int .i64 xm] 26))
  have HB0 : Hid (Below w.heap.size w (w.alloc (.cells #[.int .i64 xv, .int .i64 xg, .slice A1 n1 c1, .slice A2 n2 c2, .slice A3 n3 c3, .int .i64 xm] 26))) := (Below.refl _ w).alloc (Nat.le_refl _) _
  obtain ⟨N, hN⟩ : ∃ N : Nat, sv % 4294967296 = (N : Int) := ⟨(sv % 4294967296).toNat, by omega⟩
  have hN2 : N < 4294967296 := by omega
  have hbits : bits .and .i64 sv 4294967295 = (N : Int) := by rw [and32b]; exact hN
  go_enter Tryz.func5, Tryz.ntmps5
  go_upto_region 1 with fail
  generalize w.alloc (.cells #[.int .i64 xv, .int .i64 xg, .slice A1 n1 c1, .slice A2 n2 c2, .slice A3 n3 c3, .int .i64 xm] 26) = w0 at *
  obtain ⟨z0, z1, z2, z3, z4, z5⟩ := six_cells HX0.out
  obtain ⟨ver, rs, hsm, hcall⟩ := written_nil xv xg A1 A2 n1 n2 c1 c2 l1 l2 w0 hl1 (by
    have h := hb1.out.below HB0.out (Nat.le_refl _)
    exact ⟨h.1.up HB0.out.size, fun k hk => ⟨⟨(h.2 k hk).1.1, (h.2 k hk).1.2.1, (h.2 k hk).1.2.2.more HB0.out.size⟩, ⟨(h.2 k hk).2.1, (h.2 k hk).2.2.1, (h.2 k hk).2.2.2.more HB0.out.size⟩⟩⟩) hl2 ((hb2.out.below HB0.out (Nat.le_refl _)).up HB0.out.size)
  have HSM := Lib.hid hsm
  have HWC := Lib.hid hcall
  clear hsm hcall
  go_wp2_with fail
  refine HWC.out.mono ?_
  rintro e w2 ⟨ga, NN, cp, img, rfl, hNN, hcp, hil, hbs, hb2', hpl⟩
  obtain ⟨st, q, f, HHO, rfl⟩ := hpl trivial
  have HB2 := Lib.hid (HB0.out.trans (hb2'.mono HB0.out.size))
  have HBS := Lib.hid hbs
  have HIL := Lib.hid hil
  have HNN := Lib.hid hNN
  have HCP := Lib.hid hcp
  have HH := Lib.hid HHO
  clear hb2' hbs hil hNN hcp HHO hpl HWC z0 z1 z2 z3 z4 z5 HX0
  go_upto_region 2 with fail
  have HX3 := Lib.hid (heap_alloc_new w2 (.cells #[.int .i64 3, .int .i64 ver, .int .i64 (rs : Int), .int .i64 4] 29))
  have HB3 : Hid (Below w.heap.size w (w2.alloc (.cells #[.int .i64 3, .int .i64 ver, .int .i64 (rs : Int), .int .i64 4] 29))) := HB2.out.alloc HB2.out.size _
  have HBS3 : Hid (Bs (w2.alloc (.cells #[.int .i64 3, .int .i64 ver, .int .i64 (rs : Int), .int .i64 4] 29)) (w2.alloc (.cells #[.int .i64 3, .int .i64 ver, .int .i64 (rs : Int), .int .i64 4] 29)).heap.size (some ⟨ga, 0, none⟩) f.cur) := (HBS.out.below ((Below.refl _ w2).alloc (Nat.le_refl _) _) (Nat.le_refl _)).more (by simp)
  clear HBS HB2
  generalize w2.alloc (.cells #[.int .i64 3, .int .i64 ver, .int .i64 (rs : Int), .int .i64 4] 29) = w3 at *
  generalize w2.heap.size = q3 at *
  have HLYC : Hid (∀ W, Below w3.heap.size w3 W → W.heap[q3]? = some (.cells #[.int .i64 3, .int .i64 ver, .int .i64 (rs : Int), .int .i64 4] 29 (0, 0)) ∧ Below w.heap.size w W) := fun W hW => ⟨(hW.block _ (Array.getElem?_eq_some_iff.1 HX3.out).1).trans HX3.out, HB3.out.trans (hW.mono HB3.out.size)⟩
  by_cases h0 : N = 0
  · subst h0
    have f0 : (((0 : Nat) : Int) == 0) = true := by decide
    go_wp2_with fail
    refine (HA.out _ HB3.out).mono ?_
    rintro e w5 ⟨rfl, hb5⟩
    have HZ := Lib.hid (HB3.out.trans (hb5.mono HB3.out.size))
    go_wp2_with fail
    go_ret
    exact ⟨rfl, HZ.out⟩
  · have f0 : ((N : Int) == 0) = false := by rw [beq_eq_false_iff_ne]; omega
    by_cases h9 : N = 9
    · have f1 : ((N : Int) == 9) = true := by rw [beq_iff_eq]; omega
      go_wp2_with fail
      refine (HA.out _ HB3.out).mono ?_
      rintro e w5 ⟨rfl, hb5⟩
      have HZ := Lib.hid (HB3.out.trans (hb5.mono HB3.out.size))
      go_wp2_with fail
      go_ret
      exact ⟨rfl, HZ.out⟩
    · have f1 : ((N : Int) == 9) = false := by rw [beq_eq_false_iff_ne]; omega
      have HNO : Hid (Sc.region f.cur ⟨3, ver, (rs : Int), 4⟩ 1 (N : Int) = []) := by
        have h := HH.out.none (s := (N : Int)) (by omega) (by show (N : Int).toNat / 4294967296 = (9 : Int).toNat / 4294967296; rw [Int.toNat_natCast]; omega) (by omega)
        rwa [seen_plain HH.out.plain.dead] at h
      have HRS : Hid (rs ≤ 16 ∧ 2 ≤ rs) := by have := HSM.out.2; show _ ∧ _; omega
      have HLD : Hid (∀ W, Below w3.heap.size w3 W → Calls Tryz.prog 7 #[.slice (some ⟨ga, 0, none⟩) NN cp] W fun e w' => ∃ g c m, e = .returned (.pointer (some ⟨g, 0, none⟩)) ∧ Dev w' g c m (74 + 4 * rs) (Flash.fresh f.cur) ∧ Below W.heap.size W w') := fun W hW => by
        rw [HNN.out]
        refine (load_yes (some ⟨ga, 0, none⟩) w3.heap.size (74 + 4 * rs) cp f.cur W (fun e => by cases e) (by show _ = _; rw [HIL.out, HNN.out]) (by omega) (by have := HRS.out; omega) (HBS3.out.below hW (Nat.le_refl _))).mono fun e w' h => ?_
        obtain ⟨g, c, m, e1, e2, -, -, -, e3⟩ := h
        exact ⟨g, c, m, e1, e2, e3⟩
      have HSR : Hid (∀ W g c m, Below w3.heap.size w3 W → Dev W g c m (74 + 4 * rs) (Flash.fresh f.cur) → Calls Tryz.prog 12 #[.pointer (some ⟨g, 0, none⟩), .agg #[.int .i64 3, .int .i64 ver, .int .i64 (rs : Int), .int .i64 4], .int .i64 1, .int .i64 (N : Int)] W (FoundIs W [])) := fun W g c m hW hd => by
        have h := scregion_any 3 ver (rs : Int) 4 1 (N : Int) W (Lib.hid hd) (ht.out.below (HLYC.out W hW).2 hz) (Nat.lt_of_lt_of_le hz (HLYC.out W hW).2.size)
        rw [seen_plain (show (Flash.fresh f.cur).dead = false from rfl)] at h
        have e : (Flash.fresh f.cur).cur = f.cur := rfl
        rw [e, HNO.out] at h
        exact h
      have HD0 : Hid (Below w3.heap.size w3 w3.drew) := below_drewN w3 1
      clear HNO HH HRS HIL HBS3 HCP
      go_wp2_with fail
      refine wp_region_held_drew (S := fun W' => W'.cell? ⟨q3, 0, none⟩ = some (.int .i64 3) ∧ W'.cell? ⟨q3, 1, none⟩ = some (.int .i64 ver) ∧ W'.cell? ⟨q3, 2, none⟩ = some (.int .i64 (rs : Int)) ∧ W'.cell? ⟨q3, 3, none⟩ = some (.int .i64 4)) (by kernel_rfl) (four_cells (HLYC.out _ HD0.out).1) (fun hH => ?_)
      change wpAnyH _ _ _ _ _ 11 #[false, false, false, false, false, false, false, false, false, false, false] _ _
      refine held_step (i := 0) rfl (by kernel_rfl) ?_ (fun K hK => ?_)
      · rfl
      clear hH
      go_simp
      refine (HA.out _ (HLYC.out _ HD0.out).2).mono ?_
      rintro e w5 ⟨rfl, hb5⟩
      have HB5 := Lib.hid (HD0.out.trans (hb5.mono HD0.out.size))
      clear hb5
      have hH := four_cells (HLYC.out _ HB5.out).1
      refine hK _ _ hH ?_
      clear hK K
      simp only [List.setIfInBounds_toArray, List.set_cons_zero]
      refine held_take (i := 1) (v := ?_) (d := some 32) rfl rfl (by kernel_rfl) (by kernel_rfl) (by kernel_rfl) (fun _ _ _ h => h) hH ⟨?_, fun w hSw => ?_⟩ ?_
      rotate_left 1
      · rfl
      · (go_simp; all_goals with_reducible rfl)
      simp only [Act.put, List.setIfInBounds_toArray, List.set_cons_zero, List.set_cons_succ]
      first
        | refine held_skip (i := 2) (d := some 33) rfl rfl (by kernel_rfl) (by kernel_rfl) (by kernel_rfl) (fun _ _ _ h => h) hH ?_ ?_
          · rfl
          simp only [Act.put, List.setIfInBounds_toArray, List.set_cons_zero, List.set_cons_succ]
        | refine held_take (i := 2) (v := ?_) (d := some 33) rfl rfl (by kernel_rfl) (by kernel_rfl) (by kernel_rfl) (fun _ _ _ h => h) hH ⟨?_, fun w hSw => ?_⟩ ?_
          rotate_left 1
          · rfl
          · (go_simp; all_goals with_reducible rfl)
          simp only [Act.put, List.setIfInBounds_toArray, List.set_cons_zero, List.set_cons_succ]
      first
        | refine held_skip (i := 4) (d := some 35) rfl rfl (by kernel_rfl) (by kernel_rfl) (by kernel_rfl) (fun _ _ _ h => h) hH ?_ ?_
          · rfl
          simp only [Act.put, List.setIfInBounds_toArray, List.set_cons_zero, List.set_cons_succ]
        | refine held_take (i := 4) (v := ?_) (d := some 35) rfl rfl (by kernel_rfl) (by kernel_rfl) (by kernel_rfl) (fun _ _ _ h => h) hH ⟨?_, fun w hSw => ?_⟩ ?_
          rotate_left 1
          · rfl
          · obtain ⟨x0, x1, x2, x3⟩ := hSw
            (go_simp; all_goals with_reducible rfl)
          simp only [Act.put, List.setIfInBounds_toArray, List.set_cons_zero, List.set_cons_succ]
      first
        | refine held_skip (i := 5) (d := some 36) rfl rfl (by kernel_rfl) (by kernel_rfl) (by kernel_rfl) (fun _ _ _ h => h) hH ?_ ?_
          · rfl
          simp only [Act.put, List.setIfInBounds_toArray, List.set_cons_zero, List.set_cons_succ]
        | refine held_take (i := 5) (v := ?_) (d := some 36) rfl rfl (by kernel_rfl) (by kernel_rfl) (by kernel_rfl) (fun _ _ _ h => h) hH ⟨?_, fun w hSw => ?_⟩ ?_
          rotate_left 1
          · rfl
          · (go_simp; all_goals with_reducible rfl)
          simp only [Act.put, List.setIfInBounds_toArray, List.set_cons_zero, List.set_cons_succ]
      first
        | refine held_skip (i := 3) (d := some 34) rfl rfl (by kernel_rfl) (by kernel_rfl) (by kernel_rfl) (fun _ _ _ h => h) hH ?_ ?_
          · rfl
          simp only [Act.put, List.setIfInBounds_toArray, List.set_cons_zero, List.set_cons_succ]
        | refine held_step (i := 3) rfl (by kernel_rfl) ?_ (fun K hK => ?_)
          · rfl
          clear hH
          go_simp
          refine (HLD.out _ HB5.out).mono ?_
          rintro e w6 ⟨g6, c6, m6, rfl, hd6, hb6⟩
          have HB6 := Lib.hid (HB5.out.trans (hb6.mono HB5.out.size))
          have HD6 := Lib.hid hd6
          clear hb6 hd6
          have hH := four_cells (HLYC.out _ HB6.out).1
          refine hK _ _ hH ?_
          clear hK K
          simp only [List.setIfInBounds_toArray, List.set_cons_zero, List.set_cons_succ]
      first
        | refine held_skip (i := 6) (d := some 37) rfl rfl (by kernel_rfl) (by kernel_rfl) (by kernel_rfl) (fun _ _ _ h => h) hH ?_ ?_
          · rfl
          simp only [Act.put, List.setIfInBounds_toArray, List.set_cons_zero, List.set_cons_succ]
        | refine held_step (i := 6) rfl (by kernel_rfl) ?_ (fun K hK => ?_)
          · rfl
          clear hH
          go_simp
          refine (HSR.out _ g6 c6 m6 HB6.out HD6.out).mono ?_
          intro e w7 hf7
          obtain ⟨A7, c7, l7, rfl, -, -, -, -, hb7⟩ := found_len hf7
          have HB7 := Lib.hid (HB6.out.trans (hb7.mono HB6.out.size))
          clear hb7 hf7
          have hH := four_cells (HLYC.out _ HB7.out).1
          refine hK _ _ hH ?_
          clear hK K
          simp only [List.setIfInBounds_toArray, List.set_cons_zero, List.set_cons_succ]
      first
        | refine held_skip (i := 7) (d := some 38) rfl rfl (by kernel_rfl) (by kernel_rfl) (by kernel_rfl) (fun _ _ _ h => h) hH ?_ ?_
          · rfl
          simp only [Act.put, List.setIfInBounds_toArray, List.set_cons_zero, List.set_cons_succ]
        | refine held_take (i := 7) (v := ?_) (d := some 38) rfl rfl (by kernel_rfl) (by kernel_rfl) (by kernel_rfl) (fun _ _ _ h => h) hH ⟨?_, fun w hSw => ?_⟩ ?_
          rotate_left 1
          · rfl
          · (go_simp; all_goals with_reducible rfl)
          simp only [Act.put, List.setIfInBounds_toArray, List.set_cons_zero, List.set_cons_succ]
      first
        | refine held_skip (i := 8) (d := some 39) rfl rfl (by kernel_rfl) (by kernel_rfl) (by kernel_rfl) (fun _ _ _ h => h) hH ?_ ?_
          · rfl
          simp only [Act.put, List.setIfInBounds_toArray, List.set_cons_zero, List.set_cons_succ]
        | refine held_take (i := 8) (v := ?_) (d := some 39) rfl rfl (by kernel_rfl) (by kernel_rfl) (by kernel_rfl) (fun _ _ _ h => h) hH ⟨?_, fun w hSw => ?_⟩ ?_
          rotate_left 1
          · rfl
          · (go_simp; all_goals with_reducible rfl)
          simp only [Act.put, List.setIfInBounds_toArray, List.set_cons_zero, List.set_cons_succ]
      refine held_take (i := 9) (v := ?_) (d := some 40) rfl rfl (by kernel_rfl) (by kernel_rfl) (by kernel_rfl) (fun _ _ _ h => h) hH ⟨?_, fun w hSw => ?_⟩ ?_
      rotate_left 1
      · rfl
      · (go_simp; all_goals with_reducible rfl)
      simp only [Act.put, List.setIfInBounds_toArray, List.set_cons_zero, List.set_cons_succ]
      refine held_take (i := 10) (v := ?_) (d := some 4) rfl rfl (by kernel_rfl) (by kernel_rfl) (by kernel_rfl) (fun _ _ _ h => h) hH ⟨?_, fun w hSw => ?_⟩ ?_
      rotate_left 1
      · rfl
      · (go_simp; all_goals with_reducible rfl)
      simp only [Act.put, List.setIfInBounds_toArray, List.set_cons_zero, List.set_cons_succ]
      refine wpAnyH_done (by kernel_rfl) ?_ _
      go_wp2_with fail
      go_ret
      exact ⟨rfl, (HLYC.out _ HB7.out).2⟩
end Go.Proofs.YtledfdpabmlecaaGreatDoor
