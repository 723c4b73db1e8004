/-
  The walk of the reference's Overlap.
-/
import Derived.Test.YtmkilbogdenljaaGmSecs
import Derived.BigQuiet
set_option maxRecDepth 100000
namespace Go.Proofs.Ytmkilbogdenljaa
open Go.RowKit
theorem secs_ends {w : World} {lo B : Nat} {ad : Addr} {l : Sb.L} {s : Int} {N M : Nat} (h : Arr intS w lo B (some ad) (Gm.secs l s N)) (hN : N = M + 1) : w.cell? ad = some (.int .i64 (Gm.spot l s)) ∧ w.cell? (ad.add M) = some (.int .i64 (Gm.spot l s + (M : Int))) := by
  have h1 := ints_at h 0 (by rw [Gm.secs_length]; omega)
  have h2 := ints_at h M (by rw [Gm.secs_length]; omega)
  rw [Gm.secs_at _ _ _ _ (by omega)] at h1 h2
  refine ⟨?_, h2⟩
  rw [show Gm.spot l s + ((0 : Nat) : Int) = Gm.spot l s by omega] at h1
  exact h1
set_option maxHeartbeats 4000000 in
theorem refgmover_any (a0 a1 a2 a3 i b0 b1 b2 b3 k : Int) (w : World) :
    Calls Try.prog 23 #[.agg #[.int .i64 a0, .int .i64 a1, .int .i64 a2, .int .i64 a3], .int .i64 i, .agg #[.int .i64 b0, .int .i64 b1, .int .i64 b2, .int .i64 b3], .int .i64 k] w fun r w' => r = .returned (.bool (decide (Gm.over ⟨a0, a1, a2, a3⟩ i ⟨b0, b1, b2, b3⟩ k))) ∧ Below w.heap.size w w' := by
  have HV := Lib.hid (Gm.over_ends ⟨a0, a1, a2, a3⟩ i ⟨b0, b1, b2, b3⟩ k)
  have HS0 := Lib.hid (sd2_new w #[.int .i64 a0, .int .i64 a1, .int .i64 a2, .int .i64 a3] #[.int .i64 b0, .int .i64 b1, .int .i64 b2, .int .i64 b3] 23 23)
  by_cases ha : Gm.has ⟨a0, a1, a2, a3⟩ i
  by_cases hb : Gm.has ⟨b0, b1, b2, b3⟩ k
  · have f1 := Gm.form_nums ha.1
    have f2 := Gm.form_nums hb.1
    have f3 := Gm.spot_small ha.1 ha.2.1 (Int.le_of_lt ha.2.2)
    have f4 := Gm.spot_small hb.1 hb.2.1 (Int.le_of_lt hb.2.2)
    simp only at f1 f2 f3 f4
    obtain ⟨N, hN, hN2⟩ : ∃ N : Nat, a2 = ((N + 1 : Nat) : Int) ∧ 1 ≤ N ∧ N ≤ 2047 := ⟨(a2 - 1).toNat, by omega, by omega, by omega⟩
    obtain ⟨M, hM, hM2⟩ : ∃ M : Nat, b2 = ((M + 1 : Nat) : Int) ∧ 1 ≤ M ∧ M ≤ 2047 := ⟨(b2 - 1).toNat, by omega, by omega, by omega⟩
    have CA : Hid (∀ W, Calls Try.prog 40 #[.agg #[.int .i64 a0, .int .i64 a1, .int .i64 a2, .int .i64 a3], .int .i64 i] W (SecsHas W (Gm.secs ⟨a0, a1, a2, a3⟩ i (N + 1)) (N + 1))) := fun W => refsecs_has a0 a1 a2 a3 i (N + 1) hN W ha
    have CB : Hid (∀ W, Calls Try.prog 40 #[.agg #[.int .i64 b0, .int .i64 b1, .int .i64 b2, .int .i64 b3], .int .i64 k] W (SecsHas W (Gm.secs ⟨b0, b1, b2, b3⟩ k (M + 1)) (M + 1))) := fun W => refsecs_has b0 b1 b2 b3 k (M + 1) hM W hb
    have HE : Hid (decide (Gm.over ⟨a0, a1, a2, a3⟩ i ⟨b0, b1, b2, b3⟩ k) = (decide (Gm.spot ⟨a0, a1, a2, a3⟩ i ≤ Gm.spot ⟨b0, b1, b2, b3⟩ k + (M : Int)) && decide (Gm.spot ⟨b0, b1, b2, b3⟩ k ≤ Gm.spot ⟨a0, a1, a2, a3⟩ i + (N : Int)))) := by
      show _ = _
      rw [← Bool.decide_and]
      refine decide_eq_decide.2 (HV.out.trans ⟨fun h => ⟨?_, ?_⟩, fun h => ⟨ha, hb, ?_, ?_⟩⟩)
      · have := h.2.2.1; simp only at this; omega
      · have := h.2.2.2; simp only at this; omega
      · have := h.1; simp only; omega
      · have := h.2; simp only; omega
    rw [HE.out]
    have HEN : Hid (∀ W lo B ad, Arr intS W lo B (some ad) (Gm.secs ⟨a0, a1, a2, a3⟩ i (N + 1)) → W.cell? ad = some (.int .i64 (Gm.spot ⟨a0, a1, a2, a3⟩ i)) ∧ W.cell? (ad.add N) = some (.int .i64 (Gm.spot ⟨a0, a1, a2, a3⟩ i + (N : Int)))) := fun W lo B ad h => secs_ends h rfl
    have HEM : Hid (∀ W lo B ad, Arr intS W lo B (some ad) (Gm.secs ⟨b0, b1, b2, b3⟩ k (M + 1)) → W.cell? ad = some (.int .i64 (Gm.spot ⟨b0, b1, b2, b3⟩ k)) ∧ W.cell? (ad.add M) = some (.int .i64 (Gm.spot ⟨b0, b1, b2, b3⟩ k + (M : Int)))) := fun W lo B ad h => secs_ends h rfl
    unfold SecsHas at CA CB
    clear HE HV f1 f2 f3 f4 ha hb hN hM
    generalize Gm.spot ⟨a0, a1, a2, a3⟩ i = x at *
    generalize Gm.spot ⟨b0, b1, b2, b3⟩ k = y at *
    generalize Gm.secs ⟨a0, a1, a2, a3⟩ i (N + 1) = lx at *
    generalize Gm.secs ⟨b0, b1, b2, b3⟩ k (M + 1) = ly at *
    have hn0 : ((N : Int) + 1 == 0) = false := by rw [beq_eq_false_iff_ne]; omega
    have hm0 : ((M : Int) + 1 == 0) = false := by rw [beq_eq_false_iff_ne]; omega
    go_enter Try.func23, Try.ntmps23
    go_upto_region 1 with fail
    generalize (w.alloc (.cells #[.int .i64 a0, .int .i64 a1, .int .i64 a2, .int .i64 a3] 23)).alloc (.cells #[.int .i64 b0, .int .i64 b1, .int .i64 b2, .int .i64 b3] 23) = w0 at *
    refine wp_region_held_drew (S := (fun W => Sd2 w (.cells #[.int .i64 a0, .int .i64 a1, .int .i64 a2, .int .i64 a3] 23 (0, 0)) (.cells #[.int .i64 b0, .int .i64 b1, .int .i64 b2, .int .i64 b3] 23 (0, 0)) W)) (by kernel_rfl) (HS0.out.drew) (fun hH => ?_)
    change wpAnyH _ _ _ _ _ 8 #[false, false, false, false, false, false, false, false] _ _
    refine held_take (i := 0) (v := ?_) (d := some 11) rfl rfl (by kernel_rfl) (by kernel_rfl) (by kernel_rfl) (fun _ _ _ h => h) hH ⟨?_, fun w hSw => ?_⟩ ?_
    rotate_left 1
    · rfl
    · obtain ⟨x0, x1, x2, x3⟩ := four_cells hSw.1
      obtain ⟨y0, y1, y2, y3⟩ := four_cells hSw.2.1
      (go_simp; all_goals with_reducible rfl)
    simp only [Act.put, List.setIfInBounds_toArray, List.set_cons_zero, List.set_cons_succ]
    refine held_take (i := 1) (v := ?_) (d := some 12) rfl rfl (by kernel_rfl) (by kernel_rfl) (by kernel_rfl) (fun _ _ _ h => h) hH ⟨?_, fun w hSw => ?_⟩ ?_
    rotate_left 1
    · rfl
    · (go_simp; all_goals with_reducible rfl)
    simp only [Act.put, List.setIfInBounds_toArray, List.set_cons_zero, List.set_cons_succ]
    refine held_take (i := 3) (v := ?_) (d := some 14) rfl rfl (by kernel_rfl) (by kernel_rfl) (by kernel_rfl) (fun _ _ _ h => h) hH ⟨?_, fun w hSw => ?_⟩ ?_
    rotate_left 1
    · rfl
    · obtain ⟨x0, x1, x2, x3⟩ := four_cells hSw.1
      obtain ⟨y0, y1, y2, y3⟩ := four_cells hSw.2.1
      (go_simp; all_goals with_reducible rfl)
    simp only [Act.put, List.setIfInBounds_toArray, List.set_cons_zero, List.set_cons_succ]
    refine held_take (i := 4) (v := ?_) (d := some 15) rfl rfl (by kernel_rfl) (by kernel_rfl) (by kernel_rfl) (fun _ _ _ h => h) hH ⟨?_, fun w hSw => ?_⟩ ?_
    rotate_left 1
    · rfl
    · (go_simp; all_goals with_reducible rfl)
    simp only [Act.put, List.setIfInBounds_toArray, List.set_cons_zero, List.set_cons_succ]
    refine held_step (i := 2) rfl (by kernel_rfl) ?_ (fun K hK => ?_)
    · rfl
    go_simp
    refine (CA.out _).mono ?_
    rintro r w1 ⟨g1, c1, rfl, hs1, ha1, hb'⟩
    have HSL1 := Lib.hid hs1
    have HA1 := Lib.hid ha1
    replace hH := hH.next hb' (by rfl) (by rfl) (by rfl) (by rfl)
    refine hK _ _ hH ?_
    clear hK K
    simp only [List.setIfInBounds_toArray, List.set_cons_zero, List.set_cons_succ]
    refine held_step (i := 5) rfl (by kernel_rfl) ?_ (fun K hK => ?_)
    · rfl
    go_simp
    refine (CB.out _).mono ?_
    rintro r w2 ⟨g2, c2, rfl, hs2, ha2, hb'⟩
    have HSL2 := Lib.hid hs2
    have HA2 := Lib.hid ha2
    have HA3 := Lib.hid (HA1.out.below hb' (Nat.le_refl _))
    have HLT := Lib.hid hb'.size
    replace hH := hH.next hb' (by rfl) (by rfl) (by rfl) (by rfl)
    refine hK _ _ hH ?_
    clear hK K
    simp only [List.setIfInBounds_toArray, List.set_cons_zero, List.set_cons_succ]
    refine held_take (i := 6) (v := ?_) (d := some 9) rfl rfl (by kernel_rfl) (by kernel_rfl) (by kernel_rfl) (fun _ _ _ h => h) hH ⟨?_, fun w hSw => ?_⟩ ?_
    rotate_left 1
    · rfl
    · (go_simp; all_goals with_reducible rfl)
    simp only [Act.put, List.setIfInBounds_toArray, List.set_cons_zero, List.set_cons_succ]
    refine held_take (i := 7) (v := ?_) (d := some 10) rfl rfl (by kernel_rfl) (by kernel_rfl) (by kernel_rfl) (fun _ _ _ h => h) hH ⟨?_, fun w hSw => ?_⟩ ?_
    rotate_left 1
    · rfl
    · (go_simp; all_goals with_reducible rfl)
    simp only [Act.put, List.setIfInBounds_toArray, List.set_cons_zero, List.set_cons_succ]
    refine wpAnyH_done (by kernel_rfl) ?_ _
    (try go_wp2_with fail)
    have e1 := HEN.out _ _ _ _ HA3.out
    have e2 := HEM.out _ _ _ _ HA2.out
    simp only [arr_flat, Nat.zero_add] at e1 e2
    obtain ⟨e3, e4⟩ := e1
    obtain ⟨e5, e6⟩ := e2
    have HBB := Lib.hid hH.2.2
    cases hd : decide (x ≤ y + (M : Int))
    · go_quiet (fail)
      go_wp2_with fail
      go_ret
      exact ⟨ret_bool (by rw [hd]; rfl), below_drawn HBB.out _⟩
    · go_quiet (fail)
      go_wp2_with fail
      go_ret
      exact ⟨ret_bool (by rw [hd]; rfl), below_drawn HBB.out _⟩
  · have f1 := Gm.form_nums ha.1
    simp only at f1
    obtain ⟨N, hN, hN2⟩ : ∃ N : Nat, a2 = (N : Int) ∧ 2 ≤ N := ⟨a2.toNat, by omega, by omega⟩
    have CA : Hid (∀ W, Calls Try.prog 40 #[.agg #[.int .i64 a0, .int .i64 a1, .int .i64 a2, .int .i64 a3], .int .i64 i] W (SecsHas W (Gm.secs ⟨a0, a1, a2, a3⟩ i N) N)) := fun W => refsecs_has a0 a1 a2 a3 i N hN W ha
    have CB := Lib.hid (fun W => refsecs_no b0 b1 b2 b3 k W hb)
    rw [decide_eq_false (fun h : Gm.over ⟨a0, a1, a2, a3⟩ i ⟨b0, b1, b2, b3⟩ k => hb h.2.1)]
    unfold SecsHas at CA
    clear f1 ha hb hN HV
    have hn0 : ((N : Int) == 0) = false := by rw [beq_eq_false_iff_ne]; omega
    go_enter Try.func23, Try.ntmps23
    go_upto_region 1 with fail
    generalize (w.alloc (.cells #[.int .i64 a0, .int .i64 a1, .int .i64 a2, .int .i64 a3] 23)).alloc (.cells #[.int .i64 b0, .int .i64 b1, .int .i64 b2, .int .i64 b3] 23) = w0 at *
    refine wp_region_held_drew (S := (fun W => Sd2 w (.cells #[.int .i64 a0, .int .i64 a1, .int .i64 a2, .int .i64 a3] 23 (0, 0)) (.cells #[.int .i64 b0, .int .i64 b1, .int .i64 b2, .int .i64 b3] 23 (0, 0)) W)) (by kernel_rfl) (HS0.out.drew) (fun hH => ?_)
    change wpAnyH _ _ _ _ _ 8 #[false, false, false, false, false, false, false, false] _ _
    refine held_take (i := 0) (v := ?_) (d := some 11) rfl rfl (by kernel_rfl) (by kernel_rfl) (by kernel_rfl) (fun _ _ _ h => h) hH ⟨?_, fun w hSw => ?_⟩ ?_
    rotate_left 1
    · rfl
    · obtain ⟨x0, x1, x2, x3⟩ := four_cells hSw.1
      obtain ⟨y0, y1, y2, y3⟩ := four_cells hSw.2.1
      (go_simp; all_goals with_reducible rfl)
    simp only [Act.put, List.setIfInBounds_toArray, List.set_cons_zero, List.set_cons_succ]
    refine held_take (i := 1) (v := ?_) (d := some 12) rfl rfl (by kernel_rfl) (by kernel_rfl) (by kernel_rfl) (fun _ _ _ h => h) hH ⟨?_, fun w hSw => ?_⟩ ?_
    rotate_left 1
    · rfl
    · (go_simp; all_goals with_reducible rfl)
    simp only [Act.put, List.setIfInBounds_toArray, List.set_cons_zero, List.set_cons_succ]
    refine held_take (i := 3) (v := ?_) (d := some 14) rfl rfl (by kernel_rfl) (by kernel_rfl) (by kernel_rfl) (fun _ _ _ h => h) hH ⟨?_, fun w hSw => ?_⟩ ?_
    rotate_left 1
    · rfl
    · obtain ⟨x0, x1, x2, x3⟩ := four_cells hSw.1
      obtain ⟨y0, y1, y2, y3⟩ := four_cells hSw.2.1
      (go_simp; all_goals with_reducible rfl)
    simp only [Act.put, List.setIfInBounds_toArray, List.set_cons_zero, List.set_cons_succ]
    refine held_take (i := 4) (v := ?_) (d := some 15) rfl rfl (by kernel_rfl) (by kernel_rfl) (by kernel_rfl) (fun _ _ _ h => h) hH ⟨?_, fun w hSw => ?_⟩ ?_
    rotate_left 1
    · rfl
    · (go_simp; all_goals with_reducible rfl)
    simp only [Act.put, List.setIfInBounds_toArray, List.set_cons_zero, List.set_cons_succ]
    refine held_step (i := 2) rfl (by kernel_rfl) ?_ (fun K hK => ?_)
    · rfl
    go_simp
    refine (CA.out _).mono ?_
    rintro r w1 ⟨g1, c1, rfl, hs1, ha1, hb'⟩
    have HSL1 := Lib.hid hs1
    have HA1 := Lib.hid ha1
    replace hH := hH.next hb' (by rfl) (by rfl) (by rfl) (by rfl)
    refine hK _ _ hH ?_
    clear hK K
    simp only [List.setIfInBounds_toArray, List.set_cons_zero, List.set_cons_succ]
    refine held_step (i := 5) rfl (by kernel_rfl) ?_ (fun K hK => ?_)
    · rfl
    go_simp
    refine (CB.out _).mono ?_
    rintro r w' ⟨rfl, hb'⟩
    replace hH := hH.next hb' (by rfl) (by rfl) (by rfl) (by rfl)
    refine hK _ _ hH ?_
    clear hK K
    simp only [List.setIfInBounds_toArray, List.set_cons_zero, List.set_cons_succ]
    refine held_take (i := 6) (v := ?_) (d := some 9) rfl rfl (by kernel_rfl) (by kernel_rfl) (by kernel_rfl) (fun _ _ _ h => h) hH ⟨?_, fun w hSw => ?_⟩ ?_
    rotate_left 1
    · rfl
    · (go_simp; all_goals with_reducible rfl)
    simp only [Act.put, List.setIfInBounds_toArray, List.set_cons_zero, List.set_cons_succ]
    refine held_take (i := 7) (v := ?_) (d := some 10) rfl rfl (by kernel_rfl) (by kernel_rfl) (by kernel_rfl) (fun _ _ _ h => h) hH ⟨?_, fun w hSw => ?_⟩ ?_
    rotate_left 1
    · rfl
    · (go_simp; all_goals with_reducible rfl)
    simp only [Act.put, List.setIfInBounds_toArray, List.set_cons_zero, List.set_cons_succ]
    refine wpAnyH_done (by kernel_rfl) ?_ _
    (try go_wp2_with fail)
    have HBB := Lib.hid hH.2.2
    go_ret
    exact ⟨rfl, HBB.out⟩
  · have CB : Hid (∀ W, Calls Try.prog 40 #[.agg #[.int .i64 b0, .int .i64 b1, .int .i64 b2, .int .i64 b3], .int .i64 k] W fun r w' => ∃ A' n' c', r = .returned (.slice A' n' c') ∧ SlIs A' n' c' ∧ Below W.heap.size W w') := fun W => by
      by_cases hb : Gm.has ⟨b0, b1, b2, b3⟩ k
      · have f1 := Gm.form_nums hb.1
        simp only at f1
        refine (refsecs_has b0 b1 b2 b3 k b2.toNat (by omega) W hb).mono ?_
        rintro r w' ⟨g, c, rfl, hs, -, h⟩
        exact ⟨_, _, _, rfl, hs, h⟩
      · refine (refsecs_no b0 b1 b2 b3 k W hb).mono ?_
        rintro r w' ⟨rfl, h⟩
        exact ⟨_, _, _, rfl, ⟨fun _ => ⟨rfl, rfl⟩, Nat.le_refl _, by decide⟩, h⟩
    have CA := Lib.hid (fun W => refsecs_no a0 a1 a2 a3 i W ha)
    rw [decide_eq_false (fun h : Gm.over ⟨a0, a1, a2, a3⟩ i ⟨b0, b1, b2, b3⟩ k => ha h.1)]
    clear ha HV
    go_enter Try.func23, Try.ntmps23
    go_upto_region 1 with fail
    generalize (w.alloc (.cells #[.int .i64 a0, .int .i64 a1, .int .i64 a2, .int .i64 a3] 23)).alloc (.cells #[.int .i64 b0, .int .i64 b1, .int .i64 b2, .int .i64 b3] 23) = w0 at *
    refine wp_region_held_drew (S := (fun W => Sd2 w (.cells #[.int .i64 a0, .int .i64 a1, .int .i64 a2, .int .i64 a3] 23 (0, 0)) (.cells #[.int .i64 b0, .int .i64 b1, .int .i64 b2, .int .i64 b3] 23 (0, 0)) W)) (by kernel_rfl) (HS0.out.drew) (fun hH => ?_)
    change wpAnyH _ _ _ _ _ 8 #[false, false, false, false, false, false, false, false] _ _
    refine held_take (i := 0) (v := ?_) (d := some 11) rfl rfl (by kernel_rfl) (by kernel_rfl) (by kernel_rfl) (fun _ _ _ h => h) hH ⟨?_, fun w hSw => ?_⟩ ?_
    rotate_left 1
    · rfl
    · obtain ⟨x0, x1, x2, x3⟩ := four_cells hSw.1
      obtain ⟨y0, y1, y2, y3⟩ := four_cells hSw.2.1
      (go_simp; all_goals with_reducible rfl)
    simp only [Act.put, List.setIfInBounds_toArray, List.set_cons_zero, List.set_cons_succ]
    refine held_take (i := 1) (v := ?_) (d := some 12) rfl rfl (by kernel_rfl) (by kernel_rfl) (by kernel_rfl) (fun _ _ _ h => h) hH ⟨?_, fun w hSw => ?_⟩ ?_
    rotate_left 1
    · rfl
    · (go_simp; all_goals with_reducible rfl)
    simp only [Act.put, List.setIfInBounds_toArray, List.set_cons_zero, List.set_cons_succ]
    refine held_take (i := 3) (v := ?_) (d := some 14) rfl rfl (by kernel_rfl) (by kernel_rfl) (by kernel_rfl) (fun _ _ _ h => h) hH ⟨?_, fun w hSw => ?_⟩ ?_
    rotate_left 1
    · rfl
    · obtain ⟨x0, x1, x2, x3⟩ := four_cells hSw.1
      obtain ⟨y0, y1, y2, y3⟩ := four_cells hSw.2.1
      (go_simp; all_goals with_reducible rfl)
    simp only [Act.put, List.setIfInBounds_toArray, List.set_cons_zero, List.set_cons_succ]
    refine held_take (i := 4) (v := ?_) (d := some 15) rfl rfl (by kernel_rfl) (by kernel_rfl) (by kernel_rfl) (fun _ _ _ h => h) hH ⟨?_, fun w hSw => ?_⟩ ?_
    rotate_left 1
    · rfl
    · (go_simp; all_goals with_reducible rfl)
    simp only [Act.put, List.setIfInBounds_toArray, List.set_cons_zero, List.set_cons_succ]
    refine held_step (i := 2) rfl (by kernel_rfl) ?_ (fun K hK => ?_)
    · rfl
    go_simp
    refine (CA.out _).mono ?_
    rintro r w' ⟨rfl, hb'⟩
    replace hH := hH.next hb' (by rfl) (by rfl) (by rfl) (by rfl)
    refine hK _ _ hH ?_
    clear hK K
    simp only [List.setIfInBounds_toArray, List.set_cons_zero, List.set_cons_succ]
    refine held_step (i := 5) rfl (by kernel_rfl) ?_ (fun K hK => ?_)
    · rfl
    go_simp
    refine (CB.out _).mono ?_
    rintro r w' ⟨A', n', c', rfl, hs', hb'⟩
    replace hH := hH.next hb' (by rfl) (by rfl) (by rfl) (by rfl)
    refine hK _ _ hH ?_
    clear hK K
    simp only [List.setIfInBounds_toArray, List.set_cons_zero, List.set_cons_succ]
    refine held_take (i := 6) (v := ?_) (d := some 9) rfl rfl (by kernel_rfl) (by kernel_rfl) (by kernel_rfl) (fun _ _ _ h => h) hH ⟨?_, fun w hSw => ?_⟩ ?_
    rotate_left 1
    · rfl
    · (go_simp; all_goals with_reducible rfl)
    simp only [Act.put, List.setIfInBounds_toArray, List.set_cons_zero, List.set_cons_succ]
    refine held_take (i := 7) (v := ?_) (d := some 10) rfl rfl (by kernel_rfl) (by kernel_rfl) (by kernel_rfl) (fun _ _ _ h => h) hH ⟨?_, fun w hSw => ?_⟩ ?_
    rotate_left 1
    · rfl
    · (go_simp; all_goals with_reducible rfl)
    simp only [Act.put, List.setIfInBounds_toArray, List.set_cons_zero, List.set_cons_succ]
    refine wpAnyH_done (by kernel_rfl) ?_ _
    (try go_wp2_with fail)
    have HBB := Lib.hid hH.2.2
    go_ret
    exact ⟨rfl, HBB.out⟩
end Go.Proofs.Ytmkilbogdenljaa
