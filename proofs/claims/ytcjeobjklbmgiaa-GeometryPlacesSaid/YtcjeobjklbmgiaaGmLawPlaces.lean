/-
  The walk of the law GeometryPlaces.
-/
import Derived.Test.YtcjeobjklbmgiaaGmAwake
import Derived.Test.YtcjeobjklbmgiaaGmRefFree
import Derived.BigQuiet
import Derived.IntWalk
import Derived.Deep.DeepCutAuto
import Derived.Deep.CutBlock
import Derived.Deep.RegionHeld3
set_option maxRecDepth 100000
namespace Go.Proofs.Ytcjeobjklbmgiaa
open Go.RowKit
set_option maxHeartbeats 4000000 in
theorem geometryplaces_has (a b c d s n : Int) (w : World) (hh : Gm.has ⟨a, b, c, d⟩ s) : Calls Try.prog 3 #[.agg #[.int .i64 a, .int .i64 b, .int .i64 c, .int .i64 d], .int .i64 s, .int .i64 n] w fun r w' => r = .returned (.bool true) ∧ Below w.heap.size w w' := by
  have HS0 := Lib.hid (sd_new w #[.int .i64 a, .int .i64 b, .int .i64 c, .int .i64 d] 23)
  have CF := Lib.hid (fun W => refsbform_any a b c d W)
  have C1 := Lib.hid (fun W => gmfirst_any a b c d s W)
  have C2 := Lib.hid (fun W => gmcap_any a b c d W)
  have C3 := Lib.hid (fun W => gmfits_any a b c d n W)
  have hf := hh.1
  have h4 := Gm.form_nums hf
  have h5 := Gm.spot_small hf (s := d) (by simp only at h4; omega) (Int.le_refl _)
  simp only at h4 h5
  have m1 : wrap64 (d * c) = d * c := by unfold wrap64; omega
  have m2 : wrap64 (74 + d * c) = 74 + d * c := by unfold wrap64; omega
  have m3 : IntKind.i64.wrap (c - 1) = c - 1 := by rw [IntKind.wrap_i64]; omega
  have m4 : IntKind.i64.wrap (59 * (c - 1)) = 59 * (c - 1) := by rw [IntKind.wrap_i64]; omega
  rw [show Gm.cap ⟨a, b, c, d⟩ = 59 * (c - 1) from (if_pos hf).trans (Int.mul_comm _ _)] at C2
  rw [show decide (Gm.fits ⟨a, b, c, d⟩ n) = decide (74 + d * c ≤ n) from decide_eq_decide.2 ⟨fun h => h.2, fun h => ⟨hf, h⟩⟩] at C3
  rw [decide_eq_true hf] at CF
  obtain ⟨N, hN, hN2⟩ : ∃ N : Nat, c = ((N + 1 : Nat) : Int) ∧ 1 ≤ N := ⟨(c - 1).toNat, by omega, by omega⟩
  have CX : Hid (∀ W, Calls Try.prog 8 #[.agg #[.int .i64 a, .int .i64 b, .int .i64 c, .int .i64 d], .int .i64 s] W (SecsHas W (Gm.secs ⟨a, b, c, d⟩ s (N + 1)) (N + 1))) := fun W => refsecs_has a b c d s (N + 1) hN W hh
  have HEN : Hid (∀ W lo B ad, Arr intS W lo B (some ad) (Gm.secs ⟨a, b, c, d⟩ s (N + 1)) → W.cell? ad = some (.int .i64 (Gm.spot ⟨a, b, c, d⟩ s))) := fun W lo B ad h => (secs_ends h rfl).1
  rw [show Gm.first ⟨a, b, c, d⟩ s = Gm.spot ⟨a, b, c, d⟩ s from if_pos hh] at C1
  generalize Gm.spot ⟨a, b, c, d⟩ s = x at *
  generalize Gm.secs ⟨a, b, c, d⟩ s (N + 1) = lx at *
  unfold SecsHas at CX
  have hn0 : ((N : Int) + 1 == 0) = false := by rw [beq_eq_false_iff_ne]; omega
  have hn1 : decide (0 < (N : Int) + 1) = true := decide_eq_true (by omega)
  have hxx : (x != x) = false := by simp
  clear hf hh hN h4 h5
  go_enter Try.func3, Try.ntmps3
  go_upto_region 1 with fail
  generalize w.alloc (.cells #[.int .i64 a, .int .i64 b, .int .i64 c, .int .i64 d] 23) = w0 at *
  obtain ⟨z0, z1, z2, z3⟩ := four_cells HS0.out.1
  go_wp2_with fail
  refine (CX.out _).mono ?_
  rintro r w1 ⟨g1, c1, rfl, hs1, ha1, hb1⟩
  have HSL1 := Lib.hid hs1
  have HA1 := Lib.hid ha1
  clear hs1 ha1
  have HS1 := Lib.hid (HS0.out.next hb1 (by rfl) (by rfl) (by rfl) (by rfl))
  clear hb1 z0 z1 z2 z3 HS0
  obtain ⟨z0, z1, z2, z3⟩ := four_cells HS1.out.1
  go_wp2_with fail
  refine (C1.out _).mono ?_
  rintro r w2 ⟨rfl, hb2⟩
  have e1 := (HEN.out _ _ _ _ (HA1.out.below hb2 (Nat.le_refl _)))
  have HS2 := Lib.hid (HS1.out.next hb2 (by rfl) (by rfl) (by rfl) (by rfl))
  clear hb2 z0 z1 z2 z3 HS1
  obtain ⟨z0, z1, z2, z3⟩ := four_cells HS2.out.1
  go_wp2_with fail
  refine (CF.out _).mono ?_
  rintro r w3 ⟨rfl, hb3⟩
  have HS3 := Lib.hid (HS2.out.next hb3 (by rfl) (by rfl) (by rfl) (by rfl))
  clear hb3 z0 z1 z2 z3 HS2
  obtain ⟨z0, z1, z2, z3⟩ := four_cells HS3.out.1
  go_upto_region 8 with fail
  refine wp_region_held_drew (S := (fun W => Sd w w.heap.size (.cells #[.int .i64 a, .int .i64 b, .int .i64 c, .int .i64 d] 23 (0, 0)) W)) (by kernel_rfl) ((sd_drew HS3.out)) (fun hH => ?_)
  change wpAnyH _ _ _ _ _ 20 #[false, false, false, false, false, false, false, false, false, false, false, false, false, false, false, false, false, false, false, false] _ _
  refine held_step (i := 0) rfl (by kernel_rfl) ?_ (fun K hK => ?_)
  · rfl
  go_simp
  refine ((fun W => gmawake_any W) _).mono ?_
  rintro r w' ⟨rfl, hb'⟩
  replace hH := hH.next hb' (by rfl) (by rfl) (by rfl) (by rfl)
  refine hK _ _ hH ?_
  clear hK K
  simp only [List.setIfInBounds_toArray, List.set_cons_zero]
  refine held_take (i := 1) (v := ?_) (d := some 57) rfl rfl (by kernel_rfl) (by kernel_rfl) (by kernel_rfl) (fun _ _ _ h => h) hH ⟨?_, fun w hSw => ?_⟩ ?_
  rotate_left 1
  · rfl
  · (go_simp; all_goals with_reducible rfl)
  simp only [Act.put, List.setIfInBounds_toArray, List.set_cons_zero, List.set_cons_succ]
  first
    | refine held_skip (i := 2) (d := some 58) rfl rfl (by kernel_rfl) (by kernel_rfl) (by kernel_rfl) (fun _ _ _ h => h) hH ?_ ?_
      · rfl
      simp only [Act.put, List.setIfInBounds_toArray, List.set_cons_zero, List.set_cons_succ]
    | refine held_take (i := 2) (v := ?_) (d := some 58) rfl rfl (by kernel_rfl) (by kernel_rfl) (by kernel_rfl) (fun _ _ _ h => h) hH ⟨?_, fun w hSw => ?_⟩ ?_
      rotate_left 1
      · rfl
      · obtain ⟨x0, x1, x2, x3⟩ := four_cells hSw.1
        (go_simp; all_goals with_reducible rfl)
      simp only [Act.put, List.setIfInBounds_toArray, List.set_cons_zero, List.set_cons_succ]
  first
    | refine held_skip (i := 4) (d := some 60) rfl rfl (by kernel_rfl) (by kernel_rfl) (by kernel_rfl) (fun _ _ _ h => h) hH ?_ ?_
      · rfl
      simp only [Act.put, List.setIfInBounds_toArray, List.set_cons_zero, List.set_cons_succ]
    | refine held_take (i := 4) (v := ?_) (d := some 60) rfl rfl (by kernel_rfl) (by kernel_rfl) (by kernel_rfl) (fun _ _ _ h => h) hH ⟨?_, fun w hSw => ?_⟩ ?_
      rotate_left 1
      · rfl
      · (go_simp; all_goals with_reducible rfl)
      simp only [Act.put, List.setIfInBounds_toArray, List.set_cons_zero, List.set_cons_succ]
  first
    | refine held_skip (i := 5) (d := some 61) rfl rfl (by kernel_rfl) (by kernel_rfl) (by kernel_rfl) (fun _ _ _ h => h) hH ?_ ?_
      · rfl
      simp only [Act.put, List.setIfInBounds_toArray, List.set_cons_zero, List.set_cons_succ]
    | refine held_take (i := 5) (v := ?_) (d := some 61) rfl rfl (by kernel_rfl) (by kernel_rfl) (by kernel_rfl) (fun _ _ _ h => h) hH ⟨?_, fun w hSw => ?_⟩ ?_
      rotate_left 1
      · rfl
      · obtain ⟨x0, x1, x2, x3⟩ := four_cells hSw.1
        (go_simp; all_goals with_reducible rfl)
      simp only [Act.put, List.setIfInBounds_toArray, List.set_cons_zero, List.set_cons_succ]
  first
    | refine held_skip (i := 6) (d := some 62) rfl rfl (by kernel_rfl) (by kernel_rfl) (by kernel_rfl) (fun _ _ _ h => h) hH ?_ ?_
      · rfl
      simp only [Act.put, List.setIfInBounds_toArray, List.set_cons_zero, List.set_cons_succ]
    | refine held_take (i := 6) (v := ?_) (d := some 62) rfl rfl (by kernel_rfl) (by kernel_rfl) (by kernel_rfl) (fun _ _ _ h => h) hH ⟨?_, fun w hSw => ?_⟩ ?_
      rotate_left 1
      · rfl
      · (go_simp; all_goals with_reducible rfl)
      simp only [Act.put, List.setIfInBounds_toArray, List.set_cons_zero, List.set_cons_succ]
  first
    | refine held_skip (i := 7) (d := some 63) rfl rfl (by kernel_rfl) (by kernel_rfl) (by kernel_rfl) (fun _ _ _ h => h) hH ?_ ?_
      · rfl
      simp only [Act.put, List.setIfInBounds_toArray, List.set_cons_zero, List.set_cons_succ]
    | refine held_take (i := 7) (v := ?_) (d := some 63) rfl rfl (by kernel_rfl) (by kernel_rfl) (by kernel_rfl) (fun _ _ _ h => h) hH ⟨?_, fun w hSw => ?_⟩ ?_
      rotate_left 1
      · rfl
      · (go_simp; all_goals with_reducible rfl)
      simp only [Act.put, List.setIfInBounds_toArray, List.set_cons_zero, List.set_cons_succ]
  first
    | refine held_skip (i := 3) (d := some 59) rfl rfl (by kernel_rfl) (by kernel_rfl) (by kernel_rfl) (fun _ _ _ h => h) hH ?_ ?_
      · rfl
      simp only [Act.put, List.setIfInBounds_toArray, List.set_cons_zero, List.set_cons_succ]
    | refine held_step (i := 3) rfl (by kernel_rfl) ?_ (fun K hK => ?_)
      · rfl
      go_simp
      refine (C2.out _).mono ?_
      rintro r w' ⟨rfl, hb'⟩
      replace hH := hH.next hb' (by rfl) (by rfl) (by rfl) (by rfl)
      refine hK _ _ hH ?_
      clear hK K
      simp only [List.setIfInBounds_toArray, List.set_cons_zero, List.set_cons_succ]
  first
    | refine held_skip (i := 8) (d := some 64) rfl rfl (by kernel_rfl) (by kernel_rfl) (by kernel_rfl) (fun _ _ _ h => h) hH ?_ ?_
      · rfl
      simp only [Act.put, List.setIfInBounds_toArray, List.set_cons_zero, List.set_cons_succ]
    | refine held_take (i := 8) (v := ?_) (d := some 64) rfl rfl (by kernel_rfl) (by kernel_rfl) (by kernel_rfl) (fun _ _ _ h => h) hH ⟨?_, fun w hSw => ?_⟩ ?_
      rotate_left 1
      · rfl
      · (go_simp; all_goals with_reducible rfl)
      simp only [Act.put, List.setIfInBounds_toArray, List.set_cons_zero, List.set_cons_succ]
  refine held_take (i := 9) (v := ?_) (d := some 65) rfl rfl (by kernel_rfl) (by kernel_rfl) (by kernel_rfl) (fun _ _ _ h => h) hH ⟨?_, fun w hSw => ?_⟩ ?_
  rotate_left 1
  · rfl
  · (go_simp; all_goals with_reducible rfl)
  simp only [Act.put, List.setIfInBounds_toArray, List.set_cons_zero, List.set_cons_succ]
  refine held_take (i := 10) (v := ?_) (d := some 66) rfl rfl (by kernel_rfl) (by kernel_rfl) (by kernel_rfl) (fun _ _ _ h => h) hH ⟨?_, fun w hSw => ?_⟩ ?_
  rotate_left 1
  · rfl
  · (go_simp; all_goals with_reducible rfl)
  simp only [Act.put, List.setIfInBounds_toArray, List.set_cons_zero, List.set_cons_succ]
  first
    | refine held_skip (i := 11) (d := some 67) rfl rfl (by kernel_rfl) (by kernel_rfl) (by kernel_rfl) (fun _ _ _ h => h) hH ?_ ?_
      · rfl
      simp only [Act.put, List.setIfInBounds_toArray, List.set_cons_zero, List.set_cons_succ]
    | refine held_take (i := 11) (v := ?_) (d := some 67) rfl rfl (by kernel_rfl) (by kernel_rfl) (by kernel_rfl) (fun _ _ _ h => h) hH ⟨?_, fun w hSw => ?_⟩ ?_
      rotate_left 1
      · rfl
      · obtain ⟨x0, x1, x2, x3⟩ := four_cells hSw.1
        (go_simp; all_goals with_reducible rfl)
      simp only [Act.put, List.setIfInBounds_toArray, List.set_cons_zero, List.set_cons_succ]
  first
    | refine held_skip (i := 12) (d := some 68) rfl rfl (by kernel_rfl) (by kernel_rfl) (by kernel_rfl) (fun _ _ _ h => h) hH ?_ ?_
      · rfl
      simp only [Act.put, List.setIfInBounds_toArray, List.set_cons_zero, List.set_cons_succ]
    | refine held_take (i := 12) (v := ?_) (d := some 68) rfl rfl (by kernel_rfl) (by kernel_rfl) (by kernel_rfl) (fun _ _ _ h => h) hH ⟨?_, fun w hSw => ?_⟩ ?_
      rotate_left 1
      · rfl
      · (go_simp; all_goals with_reducible rfl)
      simp only [Act.put, List.setIfInBounds_toArray, List.set_cons_zero, List.set_cons_succ]
  first
    | refine held_skip (i := 14) (d := some 70) rfl rfl (by kernel_rfl) (by kernel_rfl) (by kernel_rfl) (fun _ _ _ h => h) hH ?_ ?_
      · rfl
      simp only [Act.put, List.setIfInBounds_toArray, List.set_cons_zero, List.set_cons_succ]
    | refine held_take (i := 14) (v := ?_) (d := some 70) rfl rfl (by kernel_rfl) (by kernel_rfl) (by kernel_rfl) (fun _ _ _ h => h) hH ⟨?_, fun w hSw => ?_⟩ ?_
      rotate_left 1
      · rfl
      · (go_simp; all_goals with_reducible rfl)
      simp only [Act.put, List.setIfInBounds_toArray, List.set_cons_zero, List.set_cons_succ]
  first
    | refine held_skip (i := 15) (d := some 71) rfl rfl (by kernel_rfl) (by kernel_rfl) (by kernel_rfl) (fun _ _ _ h => h) hH ?_ ?_
      · rfl
      simp only [Act.put, List.setIfInBounds_toArray, List.set_cons_zero, List.set_cons_succ]
    | refine held_take (i := 15) (v := ?_) (d := some 71) rfl rfl (by kernel_rfl) (by kernel_rfl) (by kernel_rfl) (fun _ _ _ h => h) hH ⟨?_, fun w hSw => ?_⟩ ?_
      rotate_left 1
      · rfl
      · (go_simp; all_goals with_reducible rfl)
      simp only [Act.put, List.setIfInBounds_toArray, List.set_cons_zero, List.set_cons_succ]
  first
    | refine held_skip (i := 16) (d := some 72) rfl rfl (by kernel_rfl) (by kernel_rfl) (by kernel_rfl) (fun _ _ _ h => h) hH ?_ ?_
      · rfl
      simp only [Act.put, List.setIfInBounds_toArray, List.set_cons_zero, List.set_cons_succ]
    | refine held_take (i := 16) (v := ?_) (d := some 72) rfl rfl (by kernel_rfl) (by kernel_rfl) (by kernel_rfl) (fun _ _ _ h => h) hH ⟨?_, fun w hSw => ?_⟩ ?_
      rotate_left 1
      · rfl
      · (go_simp; all_goals with_reducible rfl)
      simp only [Act.put, List.setIfInBounds_toArray, List.set_cons_zero, List.set_cons_succ]
  first
    | refine held_skip (i := 13) (d := some 69) rfl rfl (by kernel_rfl) (by kernel_rfl) (by kernel_rfl) (fun _ _ _ h => h) hH ?_ ?_
      · rfl
      simp only [Act.put, List.setIfInBounds_toArray, List.set_cons_zero, List.set_cons_succ]
    | refine held_step (i := 13) rfl (by kernel_rfl) ?_ (fun K hK => ?_)
      · rfl
      go_simp
      refine (C3.out _).mono ?_
      rintro r w' ⟨rfl, hb'⟩
      replace hH := hH.next hb' (by rfl) (by rfl) (by rfl) (by rfl)
      refine hK _ _ hH ?_
      clear hK K
      simp only [List.setIfInBounds_toArray, List.set_cons_zero, List.set_cons_succ]
  first
    | refine held_skip (i := 17) (d := some 73) rfl rfl (by kernel_rfl) (by kernel_rfl) (by kernel_rfl) (fun _ _ _ h => h) hH ?_ ?_
      · rfl
      simp only [Act.put, List.setIfInBounds_toArray, List.set_cons_zero, List.set_cons_succ]
    | refine held_take (i := 17) (v := ?_) (d := some 73) rfl rfl (by kernel_rfl) (by kernel_rfl) (by kernel_rfl) (fun _ _ _ h => h) hH ⟨?_, fun w hSw => ?_⟩ ?_
      rotate_left 1
      · rfl
      · (go_simp; all_goals with_reducible rfl)
      simp only [Act.put, List.setIfInBounds_toArray, List.set_cons_zero, List.set_cons_succ]
  refine held_take (i := 18) (v := ?_) (d := some 74) rfl rfl (by kernel_rfl) (by kernel_rfl) (by kernel_rfl) (fun _ _ _ h => h) hH ⟨?_, fun w hSw => ?_⟩ ?_
  rotate_left 1
  · rfl
  · (go_simp; all_goals with_reducible rfl)
  simp only [Act.put, List.setIfInBounds_toArray, List.set_cons_zero, List.set_cons_succ]
  refine held_take (i := 19) (v := ?_) (d := some 6) rfl rfl (by kernel_rfl) (by kernel_rfl) (by kernel_rfl) (fun _ _ _ h => h) hH ⟨?_, fun w hSw => ?_⟩ ?_
  rotate_left 1
  · rfl
  · (go_simp; all_goals with_reducible rfl)
  simp only [Act.put, List.setIfInBounds_toArray, List.set_cons_zero, List.set_cons_succ]
  refine wpAnyH_done (by kernel_rfl) ?_ _
  (try go_wp2_with fail)
  go_ret
  exact ⟨rfl, hH.2⟩
set_option maxHeartbeats 4000000 in
theorem geometryplaces_form (a b c d s n : Int) (w : World) (hh : ¬ Gm.has ⟨a, b, c, d⟩ s) (hf : Sb.form ⟨a, b, c, d⟩) : Calls Try.prog 3 #[.agg #[.int .i64 a, .int .i64 b, .int .i64 c, .int .i64 d], .int .i64 s, .int .i64 n] w fun r w' => r = .returned (.bool true) ∧ Below w.heap.size w w' := by
  have HS0 := Lib.hid (sd_new w #[.int .i64 a, .int .i64 b, .int .i64 c, .int .i64 d] 23)
  have CF := Lib.hid (fun W => refsbform_any a b c d W)
  have C1 := Lib.hid (fun W => gmfirst_any a b c d s W)
  have C2 := Lib.hid (fun W => gmcap_any a b c d W)
  have C3 := Lib.hid (fun W => gmfits_any a b c d n W)
  have h4 := Gm.form_nums hf
  have h5 := Gm.spot_small hf (s := d) (by simp only at h4; omega) (Int.le_refl _)
  simp only at h4 h5
  have m1 : wrap64 (d * c) = d * c := by unfold wrap64; omega
  have m2 : wrap64 (74 + d * c) = 74 + d * c := by unfold wrap64; omega
  have m3 : IntKind.i64.wrap (c - 1) = c - 1 := by rw [IntKind.wrap_i64]; omega
  have m4 : IntKind.i64.wrap (59 * (c - 1)) = 59 * (c - 1) := by rw [IntKind.wrap_i64]; omega
  rw [show Gm.cap ⟨a, b, c, d⟩ = 59 * (c - 1) from (if_pos hf).trans (Int.mul_comm _ _)] at C2
  rw [show decide (Gm.fits ⟨a, b, c, d⟩ n) = decide (74 + d * c ≤ n) from decide_eq_decide.2 ⟨fun h => h.2, fun h => ⟨hf, h⟩⟩] at C3
  rw [decide_eq_true hf] at CF
  have CX := Lib.hid (fun W => refsecs_no a b c d s W hh)
  rw [show Gm.first ⟨a, b, c, d⟩ s = -1 from if_neg hh] at C1
  clear hf hh h4 h5
  go_enter Try.func3, Try.ntmps3
  go_upto_region 1 with fail
  generalize w.alloc (.cells #[.int .i64 a, .int .i64 b, .int .i64 c, .int .i64 d] 23) = w0 at *
  obtain ⟨z0, z1, z2, z3⟩ := four_cells HS0.out.1
  go_wp2_with fail
  refine (CX.out _).mono ?_
  rintro r w1 ⟨rfl, hb1⟩
  have HS1 := Lib.hid (HS0.out.next hb1 (by rfl) (by rfl) (by rfl) (by rfl))
  clear hb1 z0 z1 z2 z3 HS0
  obtain ⟨z0, z1, z2, z3⟩ := four_cells HS1.out.1
  go_wp2_with fail
  refine (C1.out _).mono ?_
  rintro r w2 ⟨rfl, hb2⟩
  have HS2 := Lib.hid (HS1.out.next hb2 (by rfl) (by rfl) (by rfl) (by rfl))
  clear hb2 z0 z1 z2 z3 HS1
  obtain ⟨z0, z1, z2, z3⟩ := four_cells HS2.out.1
  go_wp2_with fail
  refine (CF.out _).mono ?_
  rintro r w3 ⟨rfl, hb3⟩
  have HS3 := Lib.hid (HS2.out.next hb3 (by rfl) (by rfl) (by rfl) (by rfl))
  clear hb3 z0 z1 z2 z3 HS2
  obtain ⟨z0, z1, z2, z3⟩ := four_cells HS3.out.1
  go_upto_region 8 with fail
  refine wp_region_held_drew (S := (fun W => Sd w w.heap.size (.cells #[.int .i64 a, .int .i64 b, .int .i64 c, .int .i64 d] 23 (0, 0)) W)) (by kernel_rfl) ((sd_drew HS3.out)) (fun hH => ?_)
  change wpAnyH _ _ _ _ _ 20 #[false, false, false, false, false, false, false, false, false, false, false, false, false, false, false, false, false, false, false, false] _ _
  refine held_step (i := 0) rfl (by kernel_rfl) ?_ (fun K hK => ?_)
  · rfl
  go_simp
  refine ((fun W => gmawake_any W) _).mono ?_
  rintro r w' ⟨rfl, hb'⟩
  replace hH := hH.next hb' (by rfl) (by rfl) (by rfl) (by rfl)
  refine hK _ _ hH ?_
  clear hK K
  simp only [List.setIfInBounds_toArray, List.set_cons_zero]
  refine held_take (i := 1) (v := ?_) (d := some 57) rfl rfl (by kernel_rfl) (by kernel_rfl) (by kernel_rfl) (fun _ _ _ h => h) hH ⟨?_, fun w hSw => ?_⟩ ?_
  rotate_left 1
  · rfl
  · (go_simp; all_goals with_reducible rfl)
  simp only [Act.put, List.setIfInBounds_toArray, List.set_cons_zero, List.set_cons_succ]
  first
    | refine held_skip (i := 2) (d := some 58) rfl rfl (by kernel_rfl) (by kernel_rfl) (by kernel_rfl) (fun _ _ _ h => h) hH ?_ ?_
      · rfl
      simp only [Act.put, List.setIfInBounds_toArray, List.set_cons_zero, List.set_cons_succ]
    | refine held_take (i := 2) (v := ?_) (d := some 58) rfl rfl (by kernel_rfl) (by kernel_rfl) (by kernel_rfl) (fun _ _ _ h => h) hH ⟨?_, fun w hSw => ?_⟩ ?_
      rotate_left 1
      · rfl
      · obtain ⟨x0, x1, x2, x3⟩ := four_cells hSw.1
        (go_simp; all_goals with_reducible rfl)
      simp only [Act.put, List.setIfInBounds_toArray, List.set_cons_zero, List.set_cons_succ]
  first
    | refine held_skip (i := 4) (d := some 60) rfl rfl (by kernel_rfl) (by kernel_rfl) (by kernel_rfl) (fun _ _ _ h => h) hH ?_ ?_
      · rfl
      simp only [Act.put, List.setIfInBounds_toArray, List.set_cons_zero, List.set_cons_succ]
    | refine held_take (i := 4) (v := ?_) (d := some 60) rfl rfl (by kernel_rfl) (by kernel_rfl) (by kernel_rfl) (fun _ _ _ h => h) hH ⟨?_, fun w hSw => ?_⟩ ?_
      rotate_left 1
      · rfl
      · (go_simp; all_goals with_reducible rfl)
      simp only [Act.put, List.setIfInBounds_toArray, List.set_cons_zero, List.set_cons_succ]
  first
    | refine held_skip (i := 5) (d := some 61) rfl rfl (by kernel_rfl) (by kernel_rfl) (by kernel_rfl) (fun _ _ _ h => h) hH ?_ ?_
      · rfl
      simp only [Act.put, List.setIfInBounds_toArray, List.set_cons_zero, List.set_cons_succ]
    | refine held_take (i := 5) (v := ?_) (d := some 61) rfl rfl (by kernel_rfl) (by kernel_rfl) (by kernel_rfl) (fun _ _ _ h => h) hH ⟨?_, fun w hSw => ?_⟩ ?_
      rotate_left 1
      · rfl
      · obtain ⟨x0, x1, x2, x3⟩ := four_cells hSw.1
        (go_simp; all_goals with_reducible rfl)
      simp only [Act.put, List.setIfInBounds_toArray, List.set_cons_zero, List.set_cons_succ]
  first
    | refine held_skip (i := 6) (d := some 62) rfl rfl (by kernel_rfl) (by kernel_rfl) (by kernel_rfl) (fun _ _ _ h => h) hH ?_ ?_
      · rfl
      simp only [Act.put, List.setIfInBounds_toArray, List.set_cons_zero, List.set_cons_succ]
    | refine held_take (i := 6) (v := ?_) (d := some 62) rfl rfl (by kernel_rfl) (by kernel_rfl) (by kernel_rfl) (fun _ _ _ h => h) hH ⟨?_, fun w hSw => ?_⟩ ?_
      rotate_left 1
      · rfl
      · (go_simp; all_goals with_reducible rfl)
      simp only [Act.put, List.setIfInBounds_toArray, List.set_cons_zero, List.set_cons_succ]
  first
    | refine held_skip (i := 7) (d := some 63) rfl rfl (by kernel_rfl) (by kernel_rfl) (by kernel_rfl) (fun _ _ _ h => h) hH ?_ ?_
      · rfl
      simp only [Act.put, List.setIfInBounds_toArray, List.set_cons_zero, List.set_cons_succ]
    | refine held_take (i := 7) (v := ?_) (d := some 63) rfl rfl (by kernel_rfl) (by kernel_rfl) (by kernel_rfl) (fun _ _ _ h => h) hH ⟨?_, fun w hSw => ?_⟩ ?_
      rotate_left 1
      · rfl
      · (go_simp; all_goals with_reducible rfl)
      simp only [Act.put, List.setIfInBounds_toArray, List.set_cons_zero, List.set_cons_succ]
  first
    | refine held_skip (i := 3) (d := some 59) rfl rfl (by kernel_rfl) (by kernel_rfl) (by kernel_rfl) (fun _ _ _ h => h) hH ?_ ?_
      · rfl
      simp only [Act.put, List.setIfInBounds_toArray, List.set_cons_zero, List.set_cons_succ]
    | refine held_step (i := 3) rfl (by kernel_rfl) ?_ (fun K hK => ?_)
      · rfl
      go_simp
      refine (C2.out _).mono ?_
      rintro r w' ⟨rfl, hb'⟩
      replace hH := hH.next hb' (by rfl) (by rfl) (by rfl) (by rfl)
      refine hK _ _ hH ?_
      clear hK K
      simp only [List.setIfInBounds_toArray, List.set_cons_zero, List.set_cons_succ]
  first
    | refine held_skip (i := 8) (d := some 64) rfl rfl (by kernel_rfl) (by kernel_rfl) (by kernel_rfl) (fun _ _ _ h => h) hH ?_ ?_
      · rfl
      simp only [Act.put, List.setIfInBounds_toArray, List.set_cons_zero, List.set_cons_succ]
    | refine held_take (i := 8) (v := ?_) (d := some 64) rfl rfl (by kernel_rfl) (by kernel_rfl) (by kernel_rfl) (fun _ _ _ h => h) hH ⟨?_, fun w hSw => ?_⟩ ?_
      rotate_left 1
      · rfl
      · (go_simp; all_goals with_reducible rfl)
      simp only [Act.put, List.setIfInBounds_toArray, List.set_cons_zero, List.set_cons_succ]
  refine held_take (i := 9) (v := ?_) (d := some 65) rfl rfl (by kernel_rfl) (by kernel_rfl) (by kernel_rfl) (fun _ _ _ h => h) hH ⟨?_, fun w hSw => ?_⟩ ?_
  rotate_left 1
  · rfl
  · (go_simp; all_goals with_reducible rfl)
  simp only [Act.put, List.setIfInBounds_toArray, List.set_cons_zero, List.set_cons_succ]
  refine held_take (i := 10) (v := ?_) (d := some 66) rfl rfl (by kernel_rfl) (by kernel_rfl) (by kernel_rfl) (fun _ _ _ h => h) hH ⟨?_, fun w hSw => ?_⟩ ?_
  rotate_left 1
  · rfl
  · (go_simp; all_goals with_reducible rfl)
  simp only [Act.put, List.setIfInBounds_toArray, List.set_cons_zero, List.set_cons_succ]
  first
    | refine held_skip (i := 11) (d := some 67) rfl rfl (by kernel_rfl) (by kernel_rfl) (by kernel_rfl) (fun _ _ _ h => h) hH ?_ ?_
      · rfl
      simp only [Act.put, List.setIfInBounds_toArray, List.set_cons_zero, List.set_cons_succ]
    | refine held_take (i := 11) (v := ?_) (d := some 67) rfl rfl (by kernel_rfl) (by kernel_rfl) (by kernel_rfl) (fun _ _ _ h => h) hH ⟨?_, fun w hSw => ?_⟩ ?_
      rotate_left 1
      · rfl
      · obtain ⟨x0, x1, x2, x3⟩ := four_cells hSw.1
        (go_simp; all_goals with_reducible rfl)
      simp only [Act.put, List.setIfInBounds_toArray, List.set_cons_zero, List.set_cons_succ]
  first
    | refine held_skip (i := 12) (d := some 68) rfl rfl (by kernel_rfl) (by kernel_rfl) (by kernel_rfl) (fun _ _ _ h => h) hH ?_ ?_
      · rfl
      simp only [Act.put, List.setIfInBounds_toArray, List.set_cons_zero, List.set_cons_succ]
    | refine held_take (i := 12) (v := ?_) (d := some 68) rfl rfl (by kernel_rfl) (by kernel_rfl) (by kernel_rfl) (fun _ _ _ h => h) hH ⟨?_, fun w hSw => ?_⟩ ?_
      rotate_left 1
      · rfl
      · (go_simp; all_goals with_reducible rfl)
      simp only [Act.put, List.setIfInBounds_toArray, List.set_cons_zero, List.set_cons_succ]
  first
    | refine held_skip (i := 14) (d := some 70) rfl rfl (by kernel_rfl) (by kernel_rfl) (by kernel_rfl) (fun _ _ _ h => h) hH ?_ ?_
      · rfl
      simp only [Act.put, List.setIfInBounds_toArray, List.set_cons_zero, List.set_cons_succ]
    | refine held_take (i := 14) (v := ?_) (d := some 70) rfl rfl (by kernel_rfl) (by kernel_rfl) (by kernel_rfl) (fun _ _ _ h => h) hH ⟨?_, fun w hSw => ?_⟩ ?_
      rotate_left 1
      · rfl
      · (go_simp; all_goals with_reducible rfl)
      simp only [Act.put, List.setIfInBounds_toArray, List.set_cons_zero, List.set_cons_succ]
  first
    | refine held_skip (i := 15) (d := some 71) rfl rfl (by kernel_rfl) (by kernel_rfl) (by kernel_rfl) (fun _ _ _ h => h) hH ?_ ?_
      · rfl
      simp only [Act.put, List.setIfInBounds_toArray, List.set_cons_zero, List.set_cons_succ]
    | refine held_take (i := 15) (v := ?_) (d := some 71) rfl rfl (by kernel_rfl) (by kernel_rfl) (by kernel_rfl) (fun _ _ _ h => h) hH ⟨?_, fun w hSw => ?_⟩ ?_
      rotate_left 1
      · rfl
      · (go_simp; all_goals with_reducible rfl)
      simp only [Act.put, List.setIfInBounds_toArray, List.set_cons_zero, List.set_cons_succ]
  first
    | refine held_skip (i := 16) (d := some 72) rfl rfl (by kernel_rfl) (by kernel_rfl) (by kernel_rfl) (fun _ _ _ h => h) hH ?_ ?_
      · rfl
      simp only [Act.put, List.setIfInBounds_toArray, List.set_cons_zero, List.set_cons_succ]
    | refine held_take (i := 16) (v := ?_) (d := some 72) rfl rfl (by kernel_rfl) (by kernel_rfl) (by kernel_rfl) (fun _ _ _ h => h) hH ⟨?_, fun w hSw => ?_⟩ ?_
      rotate_left 1
      · rfl
      · (go_simp; all_goals with_reducible rfl)
      simp only [Act.put, List.setIfInBounds_toArray, List.set_cons_zero, List.set_cons_succ]
  first
    | refine held_skip (i := 13) (d := some 69) rfl rfl (by kernel_rfl) (by kernel_rfl) (by kernel_rfl) (fun _ _ _ h => h) hH ?_ ?_
      · rfl
      simp only [Act.put, List.setIfInBounds_toArray, List.set_cons_zero, List.set_cons_succ]
    | refine held_step (i := 13) rfl (by kernel_rfl) ?_ (fun K hK => ?_)
      · rfl
      go_simp
      refine (C3.out _).mono ?_
      rintro r w' ⟨rfl, hb'⟩
      replace hH := hH.next hb' (by rfl) (by rfl) (by rfl) (by rfl)
      refine hK _ _ hH ?_
      clear hK K
      simp only [List.setIfInBounds_toArray, List.set_cons_zero, List.set_cons_succ]
  first
    | refine held_skip (i := 17) (d := some 73) rfl rfl (by kernel_rfl) (by kernel_rfl) (by kernel_rfl) (fun _ _ _ h => h) hH ?_ ?_
      · rfl
      simp only [Act.put, List.setIfInBounds_toArray, List.set_cons_zero, List.set_cons_succ]
    | refine held_take (i := 17) (v := ?_) (d := some 73) rfl rfl (by kernel_rfl) (by kernel_rfl) (by kernel_rfl) (fun _ _ _ h => h) hH ⟨?_, fun w hSw => ?_⟩ ?_
      rotate_left 1
      · rfl
      · (go_simp; all_goals with_reducible rfl)
      simp only [Act.put, List.setIfInBounds_toArray, List.set_cons_zero, List.set_cons_succ]
  refine held_take (i := 18) (v := ?_) (d := some 74) rfl rfl (by kernel_rfl) (by kernel_rfl) (by kernel_rfl) (fun _ _ _ h => h) hH ⟨?_, fun w hSw => ?_⟩ ?_
  rotate_left 1
  · rfl
  · (go_simp; all_goals with_reducible rfl)
  simp only [Act.put, List.setIfInBounds_toArray, List.set_cons_zero, List.set_cons_succ]
  refine held_take (i := 19) (v := ?_) (d := some 6) rfl rfl (by kernel_rfl) (by kernel_rfl) (by kernel_rfl) (fun _ _ _ h => h) hH ⟨?_, fun w hSw => ?_⟩ ?_
  rotate_left 1
  · rfl
  · (go_simp; all_goals with_reducible rfl)
  simp only [Act.put, List.setIfInBounds_toArray, List.set_cons_zero, List.set_cons_succ]
  refine wpAnyH_done (by kernel_rfl) ?_ _
  (try go_wp2_with fail)
  go_ret
  exact ⟨rfl, hH.2⟩
set_option maxHeartbeats 4000000 in
theorem geometryplaces_none (a b c d s n : Int) (w : World) (hf : ¬ Sb.form ⟨a, b, c, d⟩) : Calls Try.prog 3 #[.agg #[.int .i64 a, .int .i64 b, .int .i64 c, .int .i64 d], .int .i64 s, .int .i64 n] w fun r w' => r = .returned (.bool true) ∧ Below w.heap.size w w' := by
  have HS0 := Lib.hid (sd_new w #[.int .i64 a, .int .i64 b, .int .i64 c, .int .i64 d] 23)
  have CF := Lib.hid (fun W => refsbform_any a b c d W)
  have C1 := Lib.hid (fun W => gmfirst_any a b c d s W)
  have C2 := Lib.hid (fun W => gmcap_any a b c d W)
  have C3 := Lib.hid (fun W => gmfits_any a b c d n W)
  have hh : ¬ Gm.has ⟨a, b, c, d⟩ s := fun h => hf h.1
  have CX := Lib.hid (fun W => refsecs_no a b c d s W hh)
  rw [show Gm.first ⟨a, b, c, d⟩ s = -1 from if_neg hh] at C1
  rw [show Gm.cap ⟨a, b, c, d⟩ = 0 from if_neg hf] at C2
  rw [show decide (Gm.fits ⟨a, b, c, d⟩ n) = false from decide_eq_false (fun h => hf h.1)] at C3
  rw [decide_eq_false hf] at CF
  clear hf hh
  go_enter Try.func3, Try.ntmps3
  go_upto_region 1 with fail
  generalize w.alloc (.cells #[.int .i64 a, .int .i64 b, .int .i64 c, .int .i64 d] 23) = w0 at *
  obtain ⟨z0, z1, z2, z3⟩ := four_cells HS0.out.1
  go_wp2_with fail
  refine (CX.out _).mono ?_
  rintro r w1 ⟨rfl, hb1⟩
  have HS1 := Lib.hid (HS0.out.next hb1 (by rfl) (by rfl) (by rfl) (by rfl))
  clear hb1 z0 z1 z2 z3 HS0
  obtain ⟨z0, z1, z2, z3⟩ := four_cells HS1.out.1
  go_wp2_with fail
  refine (C1.out _).mono ?_
  rintro r w2 ⟨rfl, hb2⟩
  have HS2 := Lib.hid (HS1.out.next hb2 (by rfl) (by rfl) (by rfl) (by rfl))
  clear hb2 z0 z1 z2 z3 HS1
  obtain ⟨z0, z1, z2, z3⟩ := four_cells HS2.out.1
  go_wp2_with fail
  refine (CF.out _).mono ?_
  rintro r w3 ⟨rfl, hb3⟩
  have HS3 := Lib.hid (HS2.out.next hb3 (by rfl) (by rfl) (by rfl) (by rfl))
  clear hb3 z0 z1 z2 z3 HS2
  obtain ⟨z0, z1, z2, z3⟩ := four_cells HS3.out.1
  go_wp2_with fail
  refine (gmawake_any _).mono ?_
  rintro r w4 ⟨rfl, hb4⟩
  have HS4 := Lib.hid (HS3.out.next hb4 (by rfl) (by rfl) (by rfl) (by rfl))
  clear hb4 z0 z1 z2 z3 HS3
  obtain ⟨z0, z1, z2, z3⟩ := four_cells HS4.out.1
  go_wp2_with fail
  refine (C2.out _).mono ?_
  rintro r w5 ⟨rfl, hb5⟩
  have HS5 := Lib.hid (HS4.out.next hb5 (by rfl) (by rfl) (by rfl) (by rfl))
  clear hb5 z0 z1 z2 z3 HS4
  obtain ⟨z0, z1, z2, z3⟩ := four_cells HS5.out.1
  go_wp2_with fail
  refine (C3.out _).mono ?_
  rintro r w6 ⟨rfl, hb6⟩
  have HS6 := Lib.hid (HS5.out.next hb6 (by rfl) (by rfl) (by rfl) (by rfl))
  go_wp2_with fail
  go_ret
  exact ⟨rfl, HS6.out.2⟩
theorem geometryplaces_any (a b c d s n : Int) (w : World) : Calls Try.prog 3 #[.agg #[.int .i64 a, .int .i64 b, .int .i64 c, .int .i64 d], .int .i64 s, .int .i64 n] w fun r w' => r = .returned (.bool true) ∧ Below w.heap.size w w' := by
  by_cases hf : Sb.form ⟨a, b, c, d⟩
  · by_cases hh : Gm.has ⟨a, b, c, d⟩ s
    · exact geometryplaces_has a b c d s n w hh
    · exact geometryplaces_form a b c d s n w hh hf
  · exact geometryplaces_none a b c d s n w hf
end Go.Proofs.Ytcjeobjklbmgiaa
