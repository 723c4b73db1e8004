/-
  The walk of superblock.suitsPhase.
-/
import Derived.Test.YtjfgnojmdbfnmaaDoorSbHome
import Derived.Test.YtjfgnojmdbfnmaaDoorSbBack
namespace Go.Proofs.YtjfgnojmdbfnmaaDoor
open Go.RowKit
theorem suits_one {s : Sb.S} (h : s.phase = 1) : decide (Sb.suits s) = (Sb.sameL s.h Sb.L0 && decide (s.f.length = 0)) := by
  rw [Sb.sameL_decide, ← Bool.decide_and]
  refine decide_eq_decide.2 ⟨fun k => ?_, fun k => .inl ⟨h, k.1, k.2⟩⟩
  rcases k with ⟨_, k1, k2⟩ | ⟨k, _⟩ | ⟨k, _⟩
  · exact ⟨k1, k2⟩
  · omega
  · omega
theorem suits_two {s : Sb.S} (h : s.phase = 2) : decide (Sb.suits s) = (decide (Sb.home s) && decide (s.f.length = 1)) := by
  rw [← Bool.decide_and]
  refine decide_eq_decide.2 ⟨fun k => ?_, fun k => .inr (.inl ⟨h, k.1, k.2⟩)⟩
  rcases k with ⟨k, _⟩ | ⟨_, k1, k2⟩ | ⟨k, _⟩
  · omega
  · exact ⟨k1, k2⟩
  · omega
theorem suits_three {s : Sb.S} (h : s.phase = 3) : decide (Sb.suits s) = (decide (Sb.home s) && (decide (s.f.length = 2) && decide (Sb.back s (s.f.getD 1 Sb.L0)))) := by
  rw [← Bool.decide_and, ← Bool.decide_and]
  refine decide_eq_decide.2 ⟨fun k => ?_, fun k => .inr (.inr ⟨h, k.1, k.2⟩)⟩
  rcases k with ⟨k, _⟩ | ⟨k, _⟩ | ⟨_, k1, k2⟩
  · omega
  · omega
  · exact ⟨k1, k2⟩
theorem suits_none {s : Sb.S} (h1 : s.phase ≠ 1) (h2 : s.phase ≠ 2) (h3 : s.phase ≠ 3) : decide (Sb.suits s) = false := by
  refine decide_eq_false fun k => ?_
  rcases k with ⟨k, _⟩ | ⟨k, _⟩ | ⟨k, _⟩
  · exact h1 k
  · exact h2 k
  · exact h3 k
theorem len_is {n k : Nat} (h : n ≠ k) : ((n : Int) == (k : Int)) = false := by rw [beq_eq_false_iff_ne]; omega
theorem beq_no {a b : Int} (h : a ≠ b) : (a == b) = false := by rw [beq_eq_false_iff_ne]; exact h
set_option maxHeartbeats 4000000 in
theorem sbsuits_any (a0 a1 a2 a3 a4 t0 t1 t2 t3 h0 h1 h2 h3 : Int) (A : Option Addr) (B n c : Nat) (l : List Sb.L) (w : World) (hB : B ≤ w.heap.size) (hs : SlIs A n c) (hl : Hid (l.length = n)) (hb : Hid (Ls w B A l)) :
    Calls Tryd.prog 47 #[.agg #[.int .i64 a0, .int .i64 a1, .int .i64 a2, .int .i64 a3, .int .i64 a4, .int .i64 t0, .int .i64 t1, .int .i64 t2, .int .i64 t3, .int .i64 h0, .int .i64 h1, .int .i64 h2, .int .i64 h3, .slice A n c]] w
      fun r w' => r = .returned (.bool (decide (Sb.suits ⟨a0, a1, a2, a3, a4, ⟨t0, t1, t2, t3⟩, ⟨h0, h1, h2, h3⟩, l⟩))) ∧ Below w.heap.size w w' := by
  have CH : Hid (∀ W, Below w.heap.size w W → Calls Tryd.prog 68 #[.agg #[.int .i64 a0, .int .i64 a1, .int .i64 a2, .int .i64 a3, .int .i64 a4, .int .i64 t0, .int .i64 t1, .int .i64 t2, .int .i64 t3, .int .i64 h0, .int .i64 h1, .int .i64 h2, .int .i64 h3, .slice A n c]] W fun r w' => r = .returned (.bool (decide (Sb.home ⟨a0, a1, a2, a3, a4, ⟨t0, t1, t2, t3⟩, ⟨h0, h1, h2, h3⟩, l⟩))) ∧ Below W.heap.size W w') := fun W hW =>
    sbhome_any a0 a1 a2 a3 a4 t0 t1 t2 t3 h0 h1 h2 h3 A B n c l W (Nat.le_trans hB hW.size) hs hl (hb.out.below hW hB)
  have HV1 := Lib.hid (@suits_one ⟨a0, a1, a2, a3, a4, ⟨t0, t1, t2, t3⟩, ⟨h0, h1, h2, h3⟩, l⟩)
  have HV2 := Lib.hid (@suits_two ⟨a0, a1, a2, a3, a4, ⟨t0, t1, t2, t3⟩, ⟨h0, h1, h2, h3⟩, l⟩)
  have HV3 := Lib.hid (@suits_three ⟨a0, a1, a2, a3, a4, ⟨t0, t1, t2, t3⟩, ⟨h0, h1, h2, h3⟩, l⟩)
  have HV4 := Lib.hid (@suits_none ⟨a0, a1, a2, a3, a4, ⟨t0, t1, t2, t3⟩, ⟨h0, h1, h2, h3⟩, l⟩)
  simp only [hl.out] at HV1 HV2 HV3 HV4
  obtain ⟨e0, e1, e2, e3, HX⟩ : ∃ a0 a1 a2 a3, Hid (l.getD 1 Sb.L0 = ⟨a0, a1, a2, a3⟩) := ⟨_, _, _, _, rfl⟩
  rw [HX.out] at HV3
  have CB := Lib.hid (fun W => sbback_any a0 a1 a2 a3 a4 t0 t1 t2 t3 h0 h1 h2 h3 e0 e1 e2 e3 A n c l W)
  generalize decide (Sb.back ⟨a0, a1, a2, a3, a4, ⟨t0, t1, t2, t3⟩, ⟨h0, h1, h2, h3⟩, l⟩ ⟨e0, e1, e2, e3⟩) = k3 at *
  generalize decide (Sb.home ⟨a0, a1, a2, a3, a4, ⟨t0, t1, t2, t3⟩, ⟨h0, h1, h2, h3⟩, l⟩) = k1 at *
  generalize decide (Sb.suits ⟨a0, a1, a2, a3, a4, ⟨t0, t1, t2, t3⟩, ⟨h0, h1, h2, h3⟩, l⟩) = res at *
  have q1 : ∀ W : World, (Op.equalIn 10000 41 (.agg #[.int .i64 h0, .int .i64 h1, .int .i64 h2, .int .i64 h3]) (.agg #[.int .i64 0, .int .i64 0, .int .i64 0, .int .i64 0])).run Tryd.prog W = .ok (Sb.sameL ⟨h0, h1, h2, h3⟩ Sb.L0) W := fun W : World => lay_eq W h0 h1 h2 h3 0 0 0 0
  generalize Sb.sameL ⟨h0, h1, h2, h3⟩ Sb.L0 = k0 at *
  have HF : Hid (∀ ad W, Below w.heap.size w W → A = some ad → 1 < n → W.cell? ⟨ad.block, ad.off + 4, none⟩ = some (.int .i64 e0) ∧ W.cell? ⟨ad.block, ad.off + 5, none⟩ = some (.int .i64 e1) ∧ W.cell? ⟨ad.block, ad.off + 6, none⟩ = some (.int .i64 e2) ∧ W.cell? ⟨ad.block, ad.off + 7, none⟩ = some (.int .i64 e3)) := fun ad W hW e hn => by
    subst e
    exact (hb.out.below hW hB).second (by rw [hl.out]; exact hn) _ _ _ _ HX.out
  have HA : Hid (1 < n → ∃ ad, A = some ad) := fun hn => ls_some hb.out (k := 1) (by rw [hl.out]; exact hn)
  clear hl hb hB HX
  have HS0 := Lib.hid (sd_new w #[.int .i64 a0, .int .i64 a1, .int .i64 a2, .int .i64 a3, .int .i64 a4, .int .i64 t0, .int .i64 t1, .int .i64 t2, .int .i64 t3, .int .i64 h0, .int .i64 h1, .int .i64 h2, .int .i64 h3, .slice A n c] 44)
  by_cases p1 : a1 = 1
  · subst p1
    have HR : Hid (res = (k0 && decide (n = 0))) := HV1.out rfl
    clear HV1 HV2 HV3 HV4
    by_cases p : n = 0
    · subst p
      rw [decide_eq_true rfl, Bool.and_true] at HR
      rw [HR.out]
      cases k0
      all_goals
        go_enter Tryd.func47, Tryd.ntmps47
        go_upto_region 1 with fail
        generalize w.alloc (.cells _ 44) = w0 at *
        obtain ⟨x0, x1, x2, x3, x4, x5, x6, x7, x8, x9, x10, x11, x12, x13⟩ := cells14 HS0.out.1
        go_wp2
        go_ret
        exact ⟨rfl, HS0.out.2⟩
    · rw [decide_eq_false p, Bool.and_false] at HR
      rw [HR.out]
      have d0 : ((n : Int) == 0) = false := len_is (k := 0) p
      cases k0
      all_goals
        go_enter Tryd.func47, Tryd.ntmps47
        go_upto_region 1 with fail
        generalize w.alloc (.cells _ 44) = w0 at *
        obtain ⟨x0, x1, x2, x3, x4, x5, x6, x7, x8, x9, x10, x11, x12, x13⟩ := cells14 HS0.out.1
        go_wp2
        go_ret
        exact ⟨rfl, HS0.out.2⟩
  by_cases p2 : a1 = 2
  · subst p2
    have HR : Hid (res = (k1 && decide (n = 1))) := HV2.out rfl
    clear HV1 HV2 HV3 HV4
    by_cases p : n = 1
    · subst p
      rw [decide_eq_true rfl, Bool.and_true] at HR
      rw [HR.out]
      cases k1
      all_goals
        go_enter Tryd.func47, Tryd.ntmps47
        go_upto_region 1 with fail
        generalize w.alloc (.cells _ 44) = w0 at *
        obtain ⟨x0, x1, x2, x3, x4, x5, x6, x7, x8, x9, x10, x11, x12, x13⟩ := cells14 HS0.out.1
        go_wp2_with (go_at_call 68; refine (CH.out _ HS0.out.2).mono ?_; rintro r w1 ⟨rfl, hb1⟩; have HS1 := Lib.hid (HS0.out.next hb1 (by rfl) (by rfl) (by rfl) (by rfl)); clear x0 x1 x2 x3 x4 x5 x6 x7 x8 x9 x10 x11 x12 x13 hb1; obtain ⟨x0, x1, x2, x3, x4, x5, x6, x7, x8, x9, x10, x11, x12, x13⟩ := cells14 HS1.out.1)
        go_ret
        exact ⟨rfl, HS1.out.2⟩
    · rw [decide_eq_false p, Bool.and_false] at HR
      rw [HR.out]
      have d0 : ((n : Int) == 1) = false := len_is (k := 1) p
      cases k1
      all_goals
        go_enter Tryd.func47, Tryd.ntmps47
        go_upto_region 1 with fail
        generalize w.alloc (.cells _ 44) = w0 at *
        obtain ⟨x0, x1, x2, x3, x4, x5, x6, x7, x8, x9, x10, x11, x12, x13⟩ := cells14 HS0.out.1
        go_wp2_with (go_at_call 68; refine (CH.out _ HS0.out.2).mono ?_; rintro r w1 ⟨rfl, hb1⟩; have HS1 := Lib.hid (HS0.out.next hb1 (by rfl) (by rfl) (by rfl) (by rfl)); clear x0 x1 x2 x3 x4 x5 x6 x7 x8 x9 x10 x11 x12 x13 hb1; obtain ⟨x0, x1, x2, x3, x4, x5, x6, x7, x8, x9, x10, x11, x12, x13⟩ := cells14 HS1.out.1)
        go_ret
        exact ⟨rfl, HS1.out.2⟩
  by_cases p3 : a1 = 3
  · subst p3
    have HR : Hid (res = (k1 && (decide (n = 2) && k3))) := HV3.out rfl
    clear HV1 HV2 HV3 HV4
    have ways : (k1 = false ∧ Hid (res = false)) ∨ (k1 = true ∧ n ≠ 2 ∧ Hid (res = false)) ∨ (k1 = true ∧ n = 2 ∧ Hid (res = k3)) := by
      cases k1 with
      | false => exact .inl ⟨rfl, HR.out⟩
      | true =>
        by_cases p : n = 2
        · exact .inr (.inr ⟨rfl, p, by (show _ = _); rw [HR.out, decide_eq_true p]; rfl⟩)
        · exact .inr (.inl ⟨rfl, p, by (show _ = _); rw [HR.out, decide_eq_false p]; rfl⟩)
    clear HR
    rcases ways with ⟨rfl, HR⟩ | ⟨rfl, p, HR⟩ | ⟨rfl, p, HR⟩
    all_goals
      rw [HR.out]
      (try first
        | (have d0 : ((n : Int) == 2) = false := len_is (k := 2) p)
        | (subst p; obtain ⟨ad, rfl⟩ := HA.out (by decide)))
      go_enter Tryd.func47, Tryd.ntmps47
      go_upto_region 1 with fail
      generalize w.alloc (.cells _ 44) = w0 at *
      obtain ⟨x0, x1, x2, x3, x4, x5, x6, x7, x8, x9, x10, x11, x12, x13⟩ := cells14 HS0.out.1
      go_upto_region 7 with fail
      refine wp_region_held_drew (S := (fun W => (W.heap[w.heap.size]? = some (.cells #[.int .i64 a0, .int .i64 3, .int .i64 a2, .int .i64 a3, .int .i64 a4, .int .i64 t0, .int .i64 t1, .int .i64 t2, .int .i64 t3, .int .i64 h0, .int .i64 h1, .int .i64 h2, .int .i64 h3, .slice _ _ c] 44 (0, 0))) ∧ Below w.heap.size w W)) (by kernel_rfl) (⟨HS0.out.1, below_drawn HS0.out.2 1⟩) (fun hH => ?_)
      change wpAnyH _ _ _ _ _ 17 #[false, false, false, false, false, false, false, false, false, false, false, false, false, false, false, false, false] _ _
      refine held_take (i := 0) (v := ?_) (d := some 29) rfl rfl (by kernel_rfl) (by kernel_rfl) (by kernel_rfl) (fun _ _ _ h => h) hH ⟨?_, fun w hSw => ?_⟩ ?_
      rotate_left 1
      · rfl
      · obtain ⟨x0, x1, x2, x3, x4, x5, x6, x7, x8, x9, x10, x11, x12, x13⟩ := cells14 hSw.1
        (try obtain ⟨m0, m1, m2, m3⟩ := HF.out _ _ hSw.2 rfl (by decide))
        (go_simp; all_goals with_reducible rfl)
      simp only [Act.put, List.setIfInBounds_toArray, List.set_cons_zero, List.set_cons_succ]
      refine held_step (i := 1) rfl (by kernel_rfl) ?_ (fun K hK => ?_)
      · rfl
      clear hH
      go_simp
      refine (CH.out _ (below_drawn HS0.out.2 1)).mono ?_
      rintro r w1 ⟨rfl, hb1⟩
      have HS1 := Lib.hid (HS0.out.next hb1 (by rfl) (by rfl) (by rfl) (by rfl))
      have hH := HS1.out
      refine hK _ _ hH ?_
      clear hK K
      simp only [List.setIfInBounds_toArray, List.set_cons_zero, List.set_cons_succ]
      refine held_take (i := 2) (v := ?_) (d := some 31) rfl rfl (by kernel_rfl) (by kernel_rfl) (by kernel_rfl) (fun _ _ _ h => h) hH ⟨?_, fun w hSw => ?_⟩ ?_
      rotate_left 1
      · rfl
      · (go_simp; all_goals with_reducible rfl)
      simp only [Act.put, List.setIfInBounds_toArray, List.set_cons_zero, List.set_cons_succ]
      first
        | refine held_skip (i := 3) (d := some 32) rfl rfl (by kernel_rfl) (by kernel_rfl) (by kernel_rfl) (fun _ _ _ h => h) hH ?_ ?_
          · rfl
          simp only [Act.put, List.setIfInBounds_toArray, List.set_cons_zero, List.set_cons_succ]
        | refine held_take (i := 3) (v := ?_) (d := some 32) rfl rfl (by kernel_rfl) (by kernel_rfl) (by kernel_rfl) (fun _ _ _ h => h) hH ⟨?_, fun w hSw => ?_⟩ ?_
          rotate_left 1
          · rfl
          · (go_simp; all_goals with_reducible rfl)
          simp only [Act.put, List.setIfInBounds_toArray, List.set_cons_zero, List.set_cons_succ]
      first
        | refine held_skip (i := 4) (d := some 33) rfl rfl (by kernel_rfl) (by kernel_rfl) (by kernel_rfl) (fun _ _ _ h => h) hH ?_ ?_
          · rfl
          simp only [Act.put, List.setIfInBounds_toArray, List.set_cons_zero, List.set_cons_succ]
        | refine held_take (i := 4) (v := ?_) (d := some 33) rfl rfl (by kernel_rfl) (by kernel_rfl) (by kernel_rfl) (fun _ _ _ h => h) hH ⟨?_, fun w hSw => ?_⟩ ?_
          rotate_left 1
          · rfl
          · obtain ⟨x0, x1, x2, x3, x4, x5, x6, x7, x8, x9, x10, x11, x12, x13⟩ := cells14 hSw.1
            (try obtain ⟨m0, m1, m2, m3⟩ := HF.out _ _ hSw.2 rfl (by decide))
            (go_simp; all_goals with_reducible rfl)
          simp only [Act.put, List.setIfInBounds_toArray, List.set_cons_zero, List.set_cons_succ]
      first
        | refine held_skip (i := 5) (d := some 34) rfl rfl (by kernel_rfl) (by kernel_rfl) (by kernel_rfl) (fun _ _ _ h => h) hH ?_ ?_
          · rfl
          simp only [Act.put, List.setIfInBounds_toArray, List.set_cons_zero, List.set_cons_succ]
        | refine held_take (i := 5) (v := ?_) (d := some 34) rfl rfl (by kernel_rfl) (by kernel_rfl) (by kernel_rfl) (fun _ _ _ h => h) hH ⟨?_, fun w hSw => ?_⟩ ?_
          rotate_left 1
          · rfl
          · (go_simp; all_goals with_reducible rfl)
          simp only [Act.put, List.setIfInBounds_toArray, List.set_cons_zero, List.set_cons_succ]
      first
        | refine held_skip (i := 6) (d := some 35) rfl rfl (by kernel_rfl) (by kernel_rfl) (by kernel_rfl) (fun _ _ _ h => h) hH ?_ ?_
          · rfl
          simp only [Act.put, List.setIfInBounds_toArray, List.set_cons_zero, List.set_cons_succ]
        | refine held_take (i := 6) (v := ?_) (d := some 35) rfl rfl (by kernel_rfl) (by kernel_rfl) (by kernel_rfl) (fun _ _ _ h => h) hH ⟨?_, fun w hSw => ?_⟩ ?_
          rotate_left 1
          · rfl
          · (go_simp; all_goals with_reducible rfl)
          simp only [Act.put, List.setIfInBounds_toArray, List.set_cons_zero, List.set_cons_succ]
      refine held_take (i := 7) (v := ?_) (d := some 36) rfl rfl (by kernel_rfl) (by kernel_rfl) (by kernel_rfl) (fun _ _ _ h => h) hH ⟨?_, fun w hSw => ?_⟩ ?_
      rotate_left 1
      · rfl
      · (go_simp; all_goals with_reducible rfl)
      simp only [Act.put, List.setIfInBounds_toArray, List.set_cons_zero, List.set_cons_succ]
      refine held_take (i := 8) (v := ?_) (d := some 37) rfl rfl (by kernel_rfl) (by kernel_rfl) (by kernel_rfl) (fun _ _ _ h => h) hH ⟨?_, fun w hSw => ?_⟩ ?_
      rotate_left 1
      · rfl
      · (go_simp; all_goals with_reducible rfl)
      simp only [Act.put, List.setIfInBounds_toArray, List.set_cons_zero, List.set_cons_succ]
      first
        | refine held_skip (i := 9) (d := some 38) rfl rfl (by kernel_rfl) (by kernel_rfl) (by kernel_rfl) (fun _ _ _ h => h) hH ?_ ?_
          · rfl
          simp only [Act.put, List.setIfInBounds_toArray, List.set_cons_zero, List.set_cons_succ]
        | refine held_take (i := 9) (v := ?_) (d := some 38) rfl rfl (by kernel_rfl) (by kernel_rfl) (by kernel_rfl) (fun _ _ _ h => h) hH ⟨?_, fun w hSw => ?_⟩ ?_
          rotate_left 1
          · rfl
          · obtain ⟨x0, x1, x2, x3, x4, x5, x6, x7, x8, x9, x10, x11, x12, x13⟩ := cells14 hSw.1
            (try obtain ⟨m0, m1, m2, m3⟩ := HF.out _ _ hSw.2 rfl (by decide))
            (go_simp; all_goals with_reducible rfl)
          simp only [Act.put, List.setIfInBounds_toArray, List.set_cons_zero, List.set_cons_succ]
      first
        | refine held_skip (i := 10) (d := some 39) rfl rfl (by kernel_rfl) (by kernel_rfl) (by kernel_rfl) (fun _ _ _ h => h) hH ?_ ?_
          · rfl
          simp only [Act.put, List.setIfInBounds_toArray, List.set_cons_zero, List.set_cons_succ]
        | refine held_take (i := 10) (v := ?_) (d := some 39) rfl rfl (by kernel_rfl) (by kernel_rfl) (by kernel_rfl) (fun _ _ _ h => h) hH ⟨?_, fun w hSw => ?_⟩ ?_
          rotate_left 1
          · rfl
          · (go_simp; all_goals with_reducible rfl)
          simp only [Act.put, List.setIfInBounds_toArray, List.set_cons_zero, List.set_cons_succ]
      first
        | refine held_skip (i := 11) (d := some 40) rfl rfl (by kernel_rfl) (by kernel_rfl) (by kernel_rfl) (fun _ _ _ h => h) hH ?_ ?_
          · rfl
          simp only [Act.put, List.setIfInBounds_toArray, List.set_cons_zero, List.set_cons_succ]
        | refine held_take (i := 11) (v := ?_) (d := some 40) rfl rfl (by kernel_rfl) (by kernel_rfl) (by kernel_rfl) (fun _ _ _ h => h) hH ⟨?_, fun w hSw => ?_⟩ ?_
          rotate_left 1
          · rfl
          · obtain ⟨x0, x1, x2, x3, x4, x5, x6, x7, x8, x9, x10, x11, x12, x13⟩ := cells14 hSw.1
            (try obtain ⟨m0, m1, m2, m3⟩ := HF.out _ _ hSw.2 rfl (by decide))
            (go_simp; all_goals with_reducible rfl)
          simp only [Act.put, List.setIfInBounds_toArray, List.set_cons_zero, List.set_cons_succ]
      first
        | refine held_skip (i := 12) (d := some 41) rfl rfl (by kernel_rfl) (by kernel_rfl) (by kernel_rfl) (fun _ _ _ h => h) hH ?_ ?_
          · rfl
          simp only [Act.put, List.setIfInBounds_toArray, List.set_cons_zero, List.set_cons_succ]
        | refine held_take (i := 12) (v := ?_) (d := some 41) rfl rfl (by kernel_rfl) (by kernel_rfl) (by kernel_rfl) (fun _ _ _ h => h) hH ⟨?_, fun w hSw => ?_⟩ ?_
          rotate_left 1
          · rfl
          · obtain ⟨x0, x1, x2, x3, x4, x5, x6, x7, x8, x9, x10, x11, x12, x13⟩ := cells14 hSw.1
            (try obtain ⟨m0, m1, m2, m3⟩ := HF.out _ _ hSw.2 rfl (by decide))
            (go_simp; all_goals with_reducible rfl)
          simp only [Act.put, List.setIfInBounds_toArray, List.set_cons_zero, List.set_cons_succ]
      first
        | refine held_skip (i := 13) (d := some 42) rfl rfl (by kernel_rfl) (by kernel_rfl) (by kernel_rfl) (fun _ _ _ h => h) hH ?_ ?_
          · rfl
          simp only [Act.put, List.setIfInBounds_toArray, List.set_cons_zero, List.set_cons_succ]
        | refine held_take (i := 13) (v := ?_) (d := some 42) rfl rfl (by kernel_rfl) (by kernel_rfl) (by kernel_rfl) (fun _ _ _ h => h) hH ⟨?_, fun w hSw => ?_⟩ ?_
          rotate_left 1
          · rfl
          · obtain ⟨x0, x1, x2, x3, x4, x5, x6, x7, x8, x9, x10, x11, x12, x13⟩ := cells14 hSw.1
            (try obtain ⟨m0, m1, m2, m3⟩ := HF.out _ _ hSw.2 rfl (by decide))
            (go_simp; all_goals with_reducible rfl)
          simp only [Act.put, List.setIfInBounds_toArray, List.set_cons_zero, List.set_cons_succ]
      first
        | refine held_skip (i := 14) (d := some 43) rfl rfl (by kernel_rfl) (by kernel_rfl) (by kernel_rfl) (fun _ _ _ h => h) hH ?_ ?_
          · rfl
          simp only [Act.put, List.setIfInBounds_toArray, List.set_cons_zero, List.set_cons_succ]
        | refine held_step (i := 14) rfl (by kernel_rfl) ?_ (fun K hK => ?_)
          · rfl
          clear hH
          go_simp
          refine (CB.out _).mono ?_
          rintro r w2 ⟨rfl, hb2⟩
          have HS2 := Lib.hid (HS1.out.next hb2 (by rfl) (by rfl) (by rfl) (by rfl))
          have hH := HS2.out
          refine hK _ _ hH ?_
          clear hK K
          simp only [List.setIfInBounds_toArray, List.set_cons_zero, List.set_cons_succ]
      refine held_take (i := 15) (v := ?_) (d := some 44) rfl rfl (by kernel_rfl) (by kernel_rfl) (by kernel_rfl) (fun _ _ _ h => h) hH ⟨?_, fun w hSw => ?_⟩ ?_
      rotate_left 1
      · rfl
      · (go_simp; all_goals with_reducible rfl)
      simp only [Act.put, List.setIfInBounds_toArray, List.set_cons_zero, List.set_cons_succ]
      refine held_take (i := 16) (v := ?_) (d := some 2) rfl rfl (by kernel_rfl) (by kernel_rfl) (by kernel_rfl) (fun _ _ _ h => h) hH ⟨?_, fun w hSw => ?_⟩ ?_
      rotate_left 1
      · rfl
      · (go_simp; all_goals with_reducible rfl)
      simp only [Act.put, List.setIfInBounds_toArray, List.set_cons_zero, List.set_cons_succ]
      refine wpAnyH_done (by kernel_rfl) ?_ _
      (try go_wp2_with fail)
      go_ret
      first
        | exact ⟨rfl, HS2.out.2⟩
        | exact ⟨rfl, HS1.out.2⟩
  · have HR : Hid (res = false) := HV4.out p1 p2 p3
    clear HV1 HV2 HV3 HV4
    rw [HR.out]
    have d1 := beq_no p1
    have d2 := beq_no p2
    have d3 := beq_no p3
    go_enter Tryd.func47, Tryd.ntmps47
    go_upto_region 1 with fail
    generalize w.alloc (.cells _ 44) = w0 at *
    obtain ⟨x0, x1, x2, x3, x4, x5, x6, x7, x8, x9, x10, x11, x12, x13⟩ := cells14 HS0.out.1
    go_wp2
    go_ret
    exact ⟨rfl, HS0.out.2⟩
end Go.Proofs.YtjfgnojmdbfnmaaDoor
