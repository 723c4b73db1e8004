/-
  The walk of geometry.Overlap.
-/
import Derived.Test.YtmkilbogdenljaaGmWalk
namespace Go.Proofs.Ytmkilbogdenljaa
open Go.RowKit
theorem Sd2.drew {w W : World} {o0 o1 : Obj} (h : Sd2 w o0 o1 W) : Sd2 w o0 o1 W.drew := ⟨h.1, h.2.1, below_drawn h.2.2 1⟩
theorem over_bool (a : Sb.L) (i : Int) (b : Sb.L) (k : Int) : decide (Gm.over a i b k) = (decide (Gm.has a i) && (decide (Gm.has b k) && (decide (Gm.spot a i < Gm.spot b (k + 1)) && decide (Gm.spot b k < Gm.spot a (i + 1))))) := by
  simp only [← Bool.decide_and]
  rfl
theorem place_has {a b c d s k : Int} (h : Gm.has ⟨a, b, c, d⟩ s) (hk : k = s ∨ k = s + 1) (w : World) :
    Calls Try.prog 60 #[.agg #[.int .i64 a, .int .i64 b, .int .i64 c, .int .i64 d], .int .i64 k] w fun r w' => r = .returned (.int .i64 (Gm.spot ⟨a, b, c, d⟩ k)) ∧ Below w.heap.size w w' := by
  have h1 := h.2.1
  have h2 := h.2.2
  simp only at h2
  have h3 := Gm.spot_small h.1 (s := k) (by omega) (show k ≤ d by omega)
  exact gmplace_any a b c d k _ rfl h3.1 h3.2 w
set_option maxHeartbeats 4000000 in
theorem gmover_any (a0 a1 a2 a3 i b0 b1 b2 b3 k : Int) (w : World) :
    Calls Try.prog 55 #[.agg #[.int .i64 a0, .int .i64 a1, .int .i64 a2, .int .i64 a3], .int .i64 i, .agg #[.int .i64 b0, .int .i64 b1, .int .i64 b2, .int .i64 b3], .int .i64 k] w fun r w' => r = .returned (.bool (decide (Gm.over ⟨a0, a1, a2, a3⟩ i ⟨b0, b1, b2, b3⟩ k))) ∧ Below w.heap.size w w' := by
  have HV := Lib.hid (over_bool ⟨a0, a1, a2, a3⟩ i ⟨b0, b1, b2, b3⟩ k)
  generalize decide (Gm.over ⟨a0, a1, a2, a3⟩ i ⟨b0, b1, b2, b3⟩ k) = res at *
  have CA := Lib.hid (fun W => gmhas_any a0 a1 a2 a3 i W)
  have CB := Lib.hid (fun W => gmhas_any b0 b1 b2 b3 k W)
  have m1 : decide (Gm.has ⟨a0, a1, a2, a3⟩ i) = true → IntKind.i64.wrap (i + 1) = i + 1 := fun h => by
    have h1 := (of_decide_eq_true h)
    have h2 := Gm.form_nums h1.1
    have h3 := h1.2
    simp only at h2 h3
    rw [IntKind.wrap_i64]; omega
  have m2 : decide (Gm.has ⟨b0, b1, b2, b3⟩ k) = true → IntKind.i64.wrap (k + 1) = k + 1 := fun h => by
    have h1 := (of_decide_eq_true h)
    have h2 := Gm.form_nums h1.1
    have h3 := h1.2
    simp only at h2 h3
    rw [IntKind.wrap_i64]; omega
  have P0 : Hid (decide (Gm.has ⟨a0, a1, a2, a3⟩ i) = true → decide (Gm.has ⟨b0, b1, b2, b3⟩ k) = true → ∀ W, Calls Try.prog 60 #[.agg #[.int .i64 a0, .int .i64 a1, .int .i64 a2, .int .i64 a3], .int .i64 i] W fun r w' => r = .returned (.int .i64 (Gm.spot ⟨a0, a1, a2, a3⟩ i)) ∧ Below W.heap.size W w') := fun h _ W => place_has (of_decide_eq_true h) (.inl rfl) W
  have P1 : Hid (decide (Gm.has ⟨a0, a1, a2, a3⟩ i) = true → decide (Gm.has ⟨b0, b1, b2, b3⟩ k) = true → ∀ W, Calls Try.prog 60 #[.agg #[.int .i64 b0, .int .i64 b1, .int .i64 b2, .int .i64 b3], .int .i64 (IntKind.i64.wrap (k + 1))] W fun r w' => r = .returned (.int .i64 (Gm.spot ⟨b0, b1, b2, b3⟩ (k + 1))) ∧ Below W.heap.size W w') := fun _ h W => by rw [m2 h]; exact place_has (of_decide_eq_true h) (.inr rfl) W
  have P2 : Hid (decide (Gm.has ⟨a0, a1, a2, a3⟩ i) = true → decide (Gm.has ⟨b0, b1, b2, b3⟩ k) = true → ∀ W, Calls Try.prog 60 #[.agg #[.int .i64 b0, .int .i64 b1, .int .i64 b2, .int .i64 b3], .int .i64 k] W fun r w' => r = .returned (.int .i64 (Gm.spot ⟨b0, b1, b2, b3⟩ k)) ∧ Below W.heap.size W w') := fun _ h W => place_has (of_decide_eq_true h) (.inl rfl) W
  have P3 : Hid (decide (Gm.has ⟨a0, a1, a2, a3⟩ i) = true → decide (Gm.has ⟨b0, b1, b2, b3⟩ k) = true → ∀ W, Calls Try.prog 60 #[.agg #[.int .i64 a0, .int .i64 a1, .int .i64 a2, .int .i64 a3], .int .i64 (IntKind.i64.wrap (i + 1))] W fun r w' => r = .returned (.int .i64 (Gm.spot ⟨a0, a1, a2, a3⟩ (i + 1))) ∧ Below W.heap.size W w') := fun h _ W => by rw [m1 h]; exact place_has (of_decide_eq_true h) (.inr rfl) W
  clear m1 m2
  generalize Gm.spot ⟨a0, a1, a2, a3⟩ i = s0 at *
  generalize Gm.spot ⟨a0, a1, a2, a3⟩ (i + 1) = s1 at *
  generalize Gm.spot ⟨b0, b1, b2, b3⟩ k = u0 at *
  generalize Gm.spot ⟨b0, b1, b2, b3⟩ (k + 1) = u1 at *
  generalize decide (Gm.has ⟨a0, a1, a2, a3⟩ i) = t0 at *
  generalize decide (Gm.has ⟨b0, b1, b2, b3⟩ k) = t1 at *
  have HS0 := Lib.hid (sd2_new w #[.int .i64 a0, .int .i64 a1, .int .i64 a2, .int .i64 a3] #[.int .i64 b0, .int .i64 b1, .int .i64 b2, .int .i64 b3] 23 23)
  rcases five_ways t0 t1 (decide (s0 < u1)) true with rfl | ⟨rfl, rfl⟩ | ⟨rfl, rfl, k2⟩ | ⟨rfl, rfl, k2, k3⟩ | ⟨rfl, rfl, k2, -⟩
  case inr.inr.inr.inl => cases k3
  all_goals
    first
      | have HR : Hid (res = decide (u0 < s1)) := by (show _ = _; rw [HV.out, k2]; rfl)
      | have HR : Hid (res = false) := by (show _ = _; rw [HV.out, k2]; rfl)
      | have HR : Hid (res = false) := by (show _ = _; rw [HV.out]; rfl)
    clear HV
    go_enter Try.func55, Try.ntmps55
    go_upto_region 1 with fail
    generalize (w.alloc (.cells #[.int .i64 a0, .int .i64 a1, .int .i64 a2, .int .i64 a3] 23)).alloc (.cells #[.int .i64 b0, .int .i64 b1, .int .i64 b2, .int .i64 b3] 23) = w0 at *
    refine wp_region_held_drew (S := (fun W => Sd2 w (.cells #[.int .i64 a0, .int .i64 a1, .int .i64 a2, .int .i64 a3] 23 (0, 0)) (.cells #[.int .i64 b0, .int .i64 b1, .int .i64 b2, .int .i64 b3] 23 (0, 0)) W)) (by kernel_rfl) (HS0.out.drew) (fun hH => ?_)
    change wpAnyH _ _ _ _ _ 29 #[false, false, false, false, false, false, false, false, false, false, false, false, false, false, false, false, false, false, false, false, false, false, false, false, false, false, false, false, false] _ _
    refine held_take (i := 0) (v := ?_) (d := some 9) rfl rfl (by kernel_rfl) (by kernel_rfl) (by kernel_rfl) (fun _ _ _ h => h) hH ⟨?_, fun w hSw => ?_⟩ ?_
    rotate_left 1
    · rfl
    · obtain ⟨x0, x1, x2, x3⟩ := four_cells hSw.1
      obtain ⟨y0, y1, y2, y3⟩ := four_cells hSw.2.1
      (go_simp; all_goals with_reducible rfl)
    simp only [Act.put, List.setIfInBounds_toArray, List.set_cons_zero, List.set_cons_succ]
    refine held_take (i := 1) (v := ?_) (d := some 10) rfl rfl (by kernel_rfl) (by kernel_rfl) (by kernel_rfl) (fun _ _ _ h => h) hH ⟨?_, fun w hSw => ?_⟩ ?_
    rotate_left 1
    · rfl
    · (go_simp; all_goals with_reducible rfl)
    simp only [Act.put, List.setIfInBounds_toArray, List.set_cons_zero, List.set_cons_succ]
    refine held_step (i := 2) rfl (by kernel_rfl) ?_ (fun K hK => ?_)
    · rfl
    go_simp
    refine (CA.out _).mono ?_
    rintro r w' ⟨rfl, hb'⟩
    replace hH := hH.next hb' (by rfl) (by rfl) (by rfl) (by rfl)
    refine hK _ _ hH ?_
    clear hK K
    simp only [List.setIfInBounds_toArray, List.set_cons_zero, List.set_cons_succ]
    refine held_take (i := 3) (v := ?_) (d := some 12) rfl rfl (by kernel_rfl) (by kernel_rfl) (by kernel_rfl) (fun _ _ _ h => h) hH ⟨?_, fun w hSw => ?_⟩ ?_
    rotate_left 1
    · rfl
    · (go_simp; all_goals with_reducible rfl)
    simp only [Act.put, List.setIfInBounds_toArray, List.set_cons_zero, List.set_cons_succ]
    first
      | refine held_skip (i := 4) (d := some 13) rfl rfl (by kernel_rfl) (by kernel_rfl) (by kernel_rfl) (fun _ _ _ h => h) hH ?_ ?_
        · rfl
        simp only [Act.put, List.setIfInBounds_toArray, List.set_cons_zero, List.set_cons_succ]
      | refine held_take (i := 4) (v := ?_) (d := some 13) rfl rfl (by kernel_rfl) (by kernel_rfl) (by kernel_rfl) (fun _ _ _ h => h) hH ⟨?_, fun w hSw => ?_⟩ ?_
        rotate_left 1
        · rfl
        · obtain ⟨x0, x1, x2, x3⟩ := four_cells hSw.1
          obtain ⟨y0, y1, y2, y3⟩ := four_cells hSw.2.1
          (go_simp; all_goals with_reducible rfl)
        simp only [Act.put, List.setIfInBounds_toArray, List.set_cons_zero, List.set_cons_succ]
    first
      | refine held_skip (i := 5) (d := some 14) rfl rfl (by kernel_rfl) (by kernel_rfl) (by kernel_rfl) (fun _ _ _ h => h) hH ?_ ?_
        · rfl
        simp only [Act.put, List.setIfInBounds_toArray, List.set_cons_zero, List.set_cons_succ]
      | refine held_take (i := 5) (v := ?_) (d := some 14) rfl rfl (by kernel_rfl) (by kernel_rfl) (by kernel_rfl) (fun _ _ _ h => h) hH ⟨?_, fun w hSw => ?_⟩ ?_
        rotate_left 1
        · rfl
        · (go_simp; all_goals with_reducible rfl)
        simp only [Act.put, List.setIfInBounds_toArray, List.set_cons_zero, List.set_cons_succ]
    first
      | refine held_skip (i := 6) (d := some 15) rfl rfl (by kernel_rfl) (by kernel_rfl) (by kernel_rfl) (fun _ _ _ h => h) hH ?_ ?_
        · rfl
        simp only [Act.put, List.setIfInBounds_toArray, List.set_cons_zero, List.set_cons_succ]
      | refine held_step (i := 6) rfl (by kernel_rfl) ?_ (fun K hK => ?_)
        · rfl
        go_simp
        refine (CB.out _).mono ?_
        rintro r w' ⟨rfl, hb'⟩
        replace hH := hH.next hb' (by rfl) (by rfl) (by rfl) (by rfl)
        refine hK _ _ hH ?_
        clear hK K
        simp only [List.setIfInBounds_toArray, List.set_cons_zero, List.set_cons_succ]
    refine held_take (i := 7) (v := ?_) (d := some 16) rfl rfl (by kernel_rfl) (by kernel_rfl) (by kernel_rfl) (fun _ _ _ h => h) hH ⟨?_, fun w hSw => ?_⟩ ?_
    rotate_left 1
    · rfl
    · (go_simp; all_goals with_reducible rfl)
    simp only [Act.put, List.setIfInBounds_toArray, List.set_cons_zero, List.set_cons_succ]
    refine held_take (i := 8) (v := ?_) (d := some 17) rfl rfl (by kernel_rfl) (by kernel_rfl) (by kernel_rfl) (fun _ _ _ h => h) hH ⟨?_, fun w hSw => ?_⟩ ?_
    rotate_left 1
    · rfl
    · (go_simp; all_goals with_reducible rfl)
    simp only [Act.put, List.setIfInBounds_toArray, List.set_cons_zero, List.set_cons_succ]
    first
      | refine held_skip (i := 9) (d := some 18) rfl rfl (by kernel_rfl) (by kernel_rfl) (by kernel_rfl) (fun _ _ _ h => h) hH ?_ ?_
        · rfl
        simp only [Act.put, List.setIfInBounds_toArray, List.set_cons_zero, List.set_cons_succ]
      | refine held_take (i := 9) (v := ?_) (d := some 18) rfl rfl (by kernel_rfl) (by kernel_rfl) (by kernel_rfl) (fun _ _ _ h => h) hH ⟨?_, fun w hSw => ?_⟩ ?_
        rotate_left 1
        · rfl
        · obtain ⟨x0, x1, x2, x3⟩ := four_cells hSw.1
          obtain ⟨y0, y1, y2, y3⟩ := four_cells hSw.2.1
          (go_simp; all_goals with_reducible rfl)
        simp only [Act.put, List.setIfInBounds_toArray, List.set_cons_zero, List.set_cons_succ]
    first
      | refine held_skip (i := 10) (d := some 19) rfl rfl (by kernel_rfl) (by kernel_rfl) (by kernel_rfl) (fun _ _ _ h => h) hH ?_ ?_
        · rfl
        simp only [Act.put, List.setIfInBounds_toArray, List.set_cons_zero, List.set_cons_succ]
      | refine held_take (i := 10) (v := ?_) (d := some 19) rfl rfl (by kernel_rfl) (by kernel_rfl) (by kernel_rfl) (fun _ _ _ h => h) hH ⟨?_, fun w hSw => ?_⟩ ?_
        rotate_left 1
        · rfl
        · (go_simp; all_goals with_reducible rfl)
        simp only [Act.put, List.setIfInBounds_toArray, List.set_cons_zero, List.set_cons_succ]
    first
      | refine held_skip (i := 12) (d := some 21) rfl rfl (by kernel_rfl) (by kernel_rfl) (by kernel_rfl) (fun _ _ _ h => h) hH ?_ ?_
        · rfl
        simp only [Act.put, List.setIfInBounds_toArray, List.set_cons_zero, List.set_cons_succ]
      | refine held_take (i := 12) (v := ?_) (d := some 21) rfl rfl (by kernel_rfl) (by kernel_rfl) (by kernel_rfl) (fun _ _ _ h => h) hH ⟨?_, fun w hSw => ?_⟩ ?_
        rotate_left 1
        · rfl
        · obtain ⟨x0, x1, x2, x3⟩ := four_cells hSw.1
          obtain ⟨y0, y1, y2, y3⟩ := four_cells hSw.2.1
          (go_simp; all_goals with_reducible rfl)
        simp only [Act.put, List.setIfInBounds_toArray, List.set_cons_zero, List.set_cons_succ]
    first
      | refine held_skip (i := 13) (d := some 22) rfl rfl (by kernel_rfl) (by kernel_rfl) (by kernel_rfl) (fun _ _ _ h => h) hH ?_ ?_
        · rfl
        simp only [Act.put, List.setIfInBounds_toArray, List.set_cons_zero, List.set_cons_succ]
      | refine held_take (i := 13) (v := ?_) (d := some 22) rfl rfl (by kernel_rfl) (by kernel_rfl) (by kernel_rfl) (fun _ _ _ h => h) hH ⟨?_, fun w hSw => ?_⟩ ?_
        rotate_left 1
        · rfl
        · (go_simp; all_goals with_reducible rfl)
        simp only [Act.put, List.setIfInBounds_toArray, List.set_cons_zero, List.set_cons_succ]
    first
      | refine held_skip (i := 14) (d := some 23) rfl rfl (by kernel_rfl) (by kernel_rfl) (by kernel_rfl) (fun _ _ _ h => h) hH ?_ ?_
        · rfl
        simp only [Act.put, List.setIfInBounds_toArray, List.set_cons_zero, List.set_cons_succ]
      | refine held_take (i := 14) (v := ?_) (d := some 23) rfl rfl (by kernel_rfl) (by kernel_rfl) (by kernel_rfl) (fun _ _ _ h => h) hH ⟨?_, fun w hSw => ?_⟩ ?_
        rotate_left 1
        · rfl
        · (go_simp; all_goals with_reducible rfl)
        simp only [Act.put, List.setIfInBounds_toArray, List.set_cons_zero, List.set_cons_succ]
    first
      | refine held_skip (i := 11) (d := some 20) rfl rfl (by kernel_rfl) (by kernel_rfl) (by kernel_rfl) (fun _ _ _ h => h) hH ?_ ?_
        · rfl
        simp only [Act.put, List.setIfInBounds_toArray, List.set_cons_zero, List.set_cons_succ]
      | refine held_step (i := 11) rfl (by kernel_rfl) ?_ (fun K hK => ?_)
        · rfl
        go_simp
        refine ((P0.out rfl rfl) _).mono ?_
        rintro r w' ⟨rfl, hb'⟩
        replace hH := hH.next hb' (by rfl) (by rfl) (by rfl) (by rfl)
        refine hK _ _ hH ?_
        clear hK K
        simp only [List.setIfInBounds_toArray, List.set_cons_zero, List.set_cons_succ]
    first
      | refine held_skip (i := 15) (d := some 24) rfl rfl (by kernel_rfl) (by kernel_rfl) (by kernel_rfl) (fun _ _ _ h => h) hH ?_ ?_
        · rfl
        simp only [Act.put, List.setIfInBounds_toArray, List.set_cons_zero, List.set_cons_succ]
      | refine held_step (i := 15) rfl (by kernel_rfl) ?_ (fun K hK => ?_)
        · rfl
        go_simp
        refine ((P1.out rfl rfl) _).mono ?_
        rintro r w' ⟨rfl, hb'⟩
        replace hH := hH.next hb' (by rfl) (by rfl) (by rfl) (by rfl)
        refine hK _ _ hH ?_
        clear hK K
        simp only [List.setIfInBounds_toArray, List.set_cons_zero, List.set_cons_succ]
    first
      | refine held_skip (i := 16) (d := some 25) rfl rfl (by kernel_rfl) (by kernel_rfl) (by kernel_rfl) (fun _ _ _ h => h) hH ?_ ?_
        · rfl
        simp only [Act.put, List.setIfInBounds_toArray, List.set_cons_zero, List.set_cons_succ]
      | refine held_take (i := 16) (v := ?_) (d := some 25) rfl rfl (by kernel_rfl) (by kernel_rfl) (by kernel_rfl) (fun _ _ _ h => h) hH ⟨?_, fun w hSw => ?_⟩ ?_
        rotate_left 1
        · rfl
        · (go_simp; all_goals with_reducible rfl)
        simp only [Act.put, List.setIfInBounds_toArray, List.set_cons_zero, List.set_cons_succ]
    refine held_take (i := 17) (v := ?_) (d := some 26) rfl rfl (by kernel_rfl) (by kernel_rfl) (by kernel_rfl) (fun _ _ _ h => h) hH ⟨?_, fun w hSw => ?_⟩ ?_
    rotate_left 1
    · rfl
    · (go_simp; all_goals with_reducible rfl)
    simp only [Act.put, List.setIfInBounds_toArray, List.set_cons_zero, List.set_cons_succ]
    refine held_take (i := 18) (v := ?_) (d := some 27) rfl rfl (by kernel_rfl) (by kernel_rfl) (by kernel_rfl) (fun _ _ _ h => h) hH ⟨?_, fun w hSw => ?_⟩ ?_
    rotate_left 1
    · rfl
    · (go_simp; all_goals with_reducible rfl)
    simp only [Act.put, List.setIfInBounds_toArray, List.set_cons_zero, List.set_cons_succ]
    first
      | refine held_skip (i := 19) (d := some 28) rfl rfl (by kernel_rfl) (by kernel_rfl) (by kernel_rfl) (fun _ _ _ h => h) hH ?_ ?_
        · rfl
        simp only [Act.put, List.setIfInBounds_toArray, List.set_cons_zero, List.set_cons_succ]
      | refine held_take (i := 19) (v := ?_) (d := some 28) rfl rfl (by kernel_rfl) (by kernel_rfl) (by kernel_rfl) (fun _ _ _ h => h) hH ⟨?_, fun w hSw => ?_⟩ ?_
        rotate_left 1
        · rfl
        · obtain ⟨x0, x1, x2, x3⟩ := four_cells hSw.1
          obtain ⟨y0, y1, y2, y3⟩ := four_cells hSw.2.1
          (go_simp; all_goals with_reducible rfl)
        simp only [Act.put, List.setIfInBounds_toArray, List.set_cons_zero, List.set_cons_succ]
    first
      | refine held_skip (i := 20) (d := some 29) rfl rfl (by kernel_rfl) (by kernel_rfl) (by kernel_rfl) (fun _ _ _ h => h) hH ?_ ?_
        · rfl
        simp only [Act.put, List.setIfInBounds_toArray, List.set_cons_zero, List.set_cons_succ]
      | refine held_take (i := 20) (v := ?_) (d := some 29) rfl rfl (by kernel_rfl) (by kernel_rfl) (by kernel_rfl) (fun _ _ _ h => h) hH ⟨?_, fun w hSw => ?_⟩ ?_
        rotate_left 1
        · rfl
        · (go_simp; all_goals with_reducible rfl)
        simp only [Act.put, List.setIfInBounds_toArray, List.set_cons_zero, List.set_cons_succ]
    first
      | refine held_skip (i := 22) (d := some 31) rfl rfl (by kernel_rfl) (by kernel_rfl) (by kernel_rfl) (fun _ _ _ h => h) hH ?_ ?_
        · rfl
        simp only [Act.put, List.setIfInBounds_toArray, List.set_cons_zero, List.set_cons_succ]
      | refine held_take (i := 22) (v := ?_) (d := some 31) rfl rfl (by kernel_rfl) (by kernel_rfl) (by kernel_rfl) (fun _ _ _ h => h) hH ⟨?_, fun w hSw => ?_⟩ ?_
        rotate_left 1
        · rfl
        · obtain ⟨x0, x1, x2, x3⟩ := four_cells hSw.1
          obtain ⟨y0, y1, y2, y3⟩ := four_cells hSw.2.1
          (go_simp; all_goals with_reducible rfl)
        simp only [Act.put, List.setIfInBounds_toArray, List.set_cons_zero, List.set_cons_succ]
    first
      | refine held_skip (i := 23) (d := some 32) rfl rfl (by kernel_rfl) (by kernel_rfl) (by kernel_rfl) (fun _ _ _ h => h) hH ?_ ?_
        · rfl
        simp only [Act.put, List.setIfInBounds_toArray, List.set_cons_zero, List.set_cons_succ]
      | refine held_take (i := 23) (v := ?_) (d := some 32) rfl rfl (by kernel_rfl) (by kernel_rfl) (by kernel_rfl) (fun _ _ _ h => h) hH ⟨?_, fun w hSw => ?_⟩ ?_
        rotate_left 1
        · rfl
        · (go_simp; all_goals with_reducible rfl)
        simp only [Act.put, List.setIfInBounds_toArray, List.set_cons_zero, List.set_cons_succ]
    first
      | refine held_skip (i := 24) (d := some 33) rfl rfl (by kernel_rfl) (by kernel_rfl) (by kernel_rfl) (fun _ _ _ h => h) hH ?_ ?_
        · rfl
        simp only [Act.put, List.setIfInBounds_toArray, List.set_cons_zero, List.set_cons_succ]
      | refine held_take (i := 24) (v := ?_) (d := some 33) rfl rfl (by kernel_rfl) (by kernel_rfl) (by kernel_rfl) (fun _ _ _ h => h) hH ⟨?_, fun w hSw => ?_⟩ ?_
        rotate_left 1
        · rfl
        · (go_simp; all_goals with_reducible rfl)
        simp only [Act.put, List.setIfInBounds_toArray, List.set_cons_zero, List.set_cons_succ]
    first
      | refine held_skip (i := 21) (d := some 30) rfl rfl (by kernel_rfl) (by kernel_rfl) (by kernel_rfl) (fun _ _ _ h => h) hH ?_ ?_
        · rfl
        simp only [Act.put, List.setIfInBounds_toArray, List.set_cons_zero, List.set_cons_succ]
      | refine held_step (i := 21) rfl (by kernel_rfl) ?_ (fun K hK => ?_)
        · rfl
        go_simp
        refine ((P2.out rfl rfl) _).mono ?_
        rintro r w' ⟨rfl, hb'⟩
        replace hH := hH.next hb' (by rfl) (by rfl) (by rfl) (by rfl)
        refine hK _ _ hH ?_
        clear hK K
        simp only [List.setIfInBounds_toArray, List.set_cons_zero, List.set_cons_succ]
    first
      | refine held_skip (i := 25) (d := some 34) rfl rfl (by kernel_rfl) (by kernel_rfl) (by kernel_rfl) (fun _ _ _ h => h) hH ?_ ?_
        · rfl
        simp only [Act.put, List.setIfInBounds_toArray, List.set_cons_zero, List.set_cons_succ]
      | refine held_step (i := 25) rfl (by kernel_rfl) ?_ (fun K hK => ?_)
        · rfl
        go_simp
        refine ((P3.out rfl rfl) _).mono ?_
        rintro r w' ⟨rfl, hb'⟩
        replace hH := hH.next hb' (by rfl) (by rfl) (by rfl) (by rfl)
        refine hK _ _ hH ?_
        clear hK K
        simp only [List.setIfInBounds_toArray, List.set_cons_zero, List.set_cons_succ]
    first
      | refine held_skip (i := 26) (d := some 35) rfl rfl (by kernel_rfl) (by kernel_rfl) (by kernel_rfl) (fun _ _ _ h => h) hH ?_ ?_
        · rfl
        simp only [Act.put, List.setIfInBounds_toArray, List.set_cons_zero, List.set_cons_succ]
      | refine held_take (i := 26) (v := ?_) (d := some 35) rfl rfl (by kernel_rfl) (by kernel_rfl) (by kernel_rfl) (fun _ _ _ h => h) hH ⟨?_, fun w hSw => ?_⟩ ?_
        rotate_left 1
        · rfl
        · (go_simp; all_goals with_reducible rfl)
        simp only [Act.put, List.setIfInBounds_toArray, List.set_cons_zero, List.set_cons_succ]
    refine held_take (i := 27) (v := ?_) (d := some 36) rfl rfl (by kernel_rfl) (by kernel_rfl) (by kernel_rfl) (fun _ _ _ h => h) hH ⟨?_, fun w hSw => ?_⟩ ?_
    rotate_left 1
    · rfl
    · (go_simp; all_goals with_reducible rfl)
    simp only [Act.put, List.setIfInBounds_toArray, List.set_cons_zero, List.set_cons_succ]
    refine held_take (i := 28) (v := ?_) (d := some 8) rfl rfl (by kernel_rfl) (by kernel_rfl) (by kernel_rfl) (fun _ _ _ h => h) hH ⟨?_, fun w hSw => ?_⟩ ?_
    rotate_left 1
    · rfl
    · (go_simp; all_goals with_reducible rfl)
    simp only [Act.put, List.setIfInBounds_toArray, List.set_cons_zero, List.set_cons_succ]
    refine wpAnyH_done (by kernel_rfl) ?_ _
    (try go_wp2_with fail)
    go_ret
    exact ⟨ret_bool HR.out.symm, hH.2.2⟩
end Go.Proofs.Ytmkilbogdenljaa
