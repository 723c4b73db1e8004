/-
  SbRefThree: The walk of the reference's Valid at a returning superblock.
  SbRefValid: The walk of the reference's Valid of superblocks.
-/
import Derived.Test.YtcjnhemlkahgoaaDoorSbRefTwos
section
namespace Go.Proofs.YtcjnhemlkahgoaaDoor
open Go.RowKit
theorem three_made {w w3 : World} (hs : Below w.heap.size w w3) (c0 c1 c2 : Array Value) (t : TypeId) :
    ((((w3.alloc (.cells c0 t)).alloc (.cells c1 t)).alloc (.cells c2 t)).heap[w3.heap.size]? = some (.cells c0 t (0, 0)) ∧ (((w3.alloc (.cells c0 t)).alloc (.cells c1 t)).alloc (.cells c2 t)).heap[w3.heap.size + 1]? = some (.cells c1 t (0, 0)) ∧ (((w3.alloc (.cells c0 t)).alloc (.cells c1 t)).alloc (.cells c2 t)).heap[w3.heap.size + 2]? = some (.cells c2 t (0, 0))) ∧ Below w.heap.size w (((w3.alloc (.cells c0 t)).alloc (.cells c1 t)).alloc (.cells c2 t)) := by
  have s1 : (w3.alloc (.cells c0 t)).heap.size = w3.heap.size + 1 := by simp
  have s2 : ((w3.alloc (.cells c0 t)).alloc (.cells c1 t)).heap.size = w3.heap.size + 2 := by simp
  refine ⟨⟨(heap_alloc_old _ _ (by omega)).trans ((heap_alloc_old _ _ (by omega)).trans (heap_alloc_new _ _)), (heap_alloc_old _ _ (by omega)).trans (alloc_at s1.symm), alloc_at s2.symm⟩, ((hs.alloc hs.size _).alloc ?_ _).alloc ?_ _⟩
  · have := hs.size; omega
  · have := hs.size; omega
/-- Three blocks with the layouts. -/
def ThreeAt (w : World) (o0 o1 o2 : Obj) (g0 g1 g2 : Nat) (W : World) : Prop := W.heap[g0]? = some o0 ∧ W.heap[g1]? = some o1 ∧ W.heap[g2]? = some o2 ∧ Below w.heap.size w W
set_option maxHeartbeats 8000000 in
set_option maxRecDepth 100000 in
theorem refsbvalid_three (a0 a2 a3 a4 t0 t1 t2 t3 h0 h1 h2 h3 : Int) (A : Option Addr) (B n c : Nat) (l : List Sb.L) (w : World) (hB : B ≤ w.heap.size) (hl : Hid (l.length = n)) (hb : Hid (Ls w B A l)) (hk : Sb.form ⟨t0, t1, t2, t3⟩) (c0 : decide (a0 < 1) = false) (c1 : decide (1099511627775 < a0) = false) (c2 : decide (a2 < 0) = false) (c3 : decide (4294967295 < a2) = false) (c4 : decide (a3 < 0) = false) (c5 : decide (281474976710655 < a3) = false) (c6 : decide (a4 < 0) = false) (c7 : decide (549755813888 < a4) = false) :
    Calls Tryd.prog 19 #[.agg #[.int .i64 a0, .int .i64 3, .int .i64 a2, .int .i64 a3, .int .i64 a4, .int .i64 t0, .int .i64 t1, .int .i64 t2, .int .i64 t3, .int .i64 h0, .int .i64 h1, .int .i64 h2, .int .i64 h3, .slice A n c]] w
      fun r w' => r = .returned (.bool (decide (Sb.valid ⟨a0, 3, a2, a3, a4, ⟨t0, t1, t2, t3⟩, ⟨h0, h1, h2, h3⟩, l⟩))) ∧ Below w.heap.size w w' := by
  have HV := Lib.hid (valid_bool ⟨a0, 3, a2, a3, a4, ⟨t0, t1, t2, t3⟩, ⟨h0, h1, h2, h3⟩, l⟩)
  simp only [range_bool] at HV
  rw [c0, c1, c2, c3, c4, c5, c6, c7, decide_eq_true hk] at HV
  simp only [Bool.not_false, Bool.true_and] at HV
  rw [HV.out]
  clear HV
  have HR := Lib.hid (three_bool ⟨a0, 3, a2, a3, a4, ⟨t0, t1, t2, t3⟩, ⟨h0, h1, h2, h3⟩, l⟩ rfl)
  simp only [hl.out] at HR
  generalize decide (Sb.suits ⟨a0, 3, a2, a3, a4, ⟨t0, t1, t2, t3⟩, ⟨h0, h1, h2, h3⟩, l⟩) = ks at *
  have CT : Hid (∀ W, Calls Tryd.prog 47 #[.agg #[.int .i64 t0, .int .i64 t1, .int .i64 t2, .int .i64 t3]] W fun r w' => r = .returned (.bool true) ∧ Below W.heap.size W w') := fun W => by
    have h := refsbform_any t0 t1 t2 t3 W
    rwa [decide_eq_true hk] at h
  clear hk
  obtain ⟨e0, e1, e2, e3, HX⟩ : ∃ a0 a1 a2 a3, Hid (l.getD 0 Sb.L0 = ⟨a0, a1, a2, a3⟩) := ⟨_, _, _, _, rfl⟩
  rw [HX.out] at HR
  have CH := Lib.hid (fun W => refsbform_any h0 h1 h2 h3 W)
  generalize decide (Sb.form ⟨h0, h1, h2, h3⟩) = kh at *
  have q2 := fun W : World => lay_eq W e0 e1 e2 e3 h0 h1 h2 h3
  generalize Sb.sameL ⟨e0, e1, e2, e3⟩ ⟨h0, h1, h2, h3⟩ = ke at *
  have HF : Hid (∀ ad W, Below w.heap.size w W → A = some ad → 0 < n → W.cell? ad = some (.int .i64 e0) ∧ W.cell? ⟨ad.block, ad.off + 1, none⟩ = some (.int .i64 e1) ∧ W.cell? ⟨ad.block, ad.off + 2, none⟩ = some (.int .i64 e2) ∧ W.cell? ⟨ad.block, ad.off + 3, none⟩ = some (.int .i64 e3)) := fun ad W hW e hn => by
    subst e
    exact (hb.out.below hW hB).first (by rw [hl.out]; exact hn) _ _ _ _ HX.out
  have HA : Hid (0 < n → ∃ ad, A = some ad) := fun hn => ls_some hb.out (k := 0) (by rw [hl.out]; exact hn)
  obtain ⟨f0, f1, f2, f3, HY⟩ : ∃ a0 a1 a2 a3, Hid (l.getD 1 Sb.L0 = ⟨a0, a1, a2, a3⟩) := ⟨_, _, _, _, rfl⟩
  rw [HY.out] at HR
  have CE := Lib.hid (fun W => refsbform_any f0 f1 f2 f3 W)
  generalize decide (Sb.form ⟨f0, f1, f2, f3⟩) = kf at *
  have HG : Hid (∀ ad W, Below w.heap.size w W → A = some ad → 1 < n → W.cell? ⟨ad.block, ad.off + 4, none⟩ = some (.int .i64 f0) ∧ W.cell? ⟨ad.block, ad.off + 5, none⟩ = some (.int .i64 f1) ∧ W.cell? ⟨ad.block, ad.off + 6, none⟩ = some (.int .i64 f2) ∧ W.cell? ⟨ad.block, ad.off + 7, none⟩ = some (.int .i64 f3)) := fun ad W hW e hn => by
    subst e
    exact (hb.out.below hW hB).second (by rw [hl.out]; exact hn) _ _ _ _ HY.out
  clear hl hb hB HX HY
  have HS0 := Lib.hid (sd_new w #[.int .i64 a0, .int .i64 3, .int .i64 a2, .int .i64 a3, .int .i64 a4, .int .i64 t0, .int .i64 t1, .int .i64 t2, .int .i64 t3, .int .i64 h0, .int .i64 h1, .int .i64 h2, .int .i64 h3, .slice A n c] 27)
  rcases ways5 (a2 != 0) kh (decide (n = 2)) ke kf with k0 | ⟨k0, rfl⟩ | ⟨k0, rfl, k2⟩ | ⟨k0, rfl, k2, rfl⟩ | ⟨k0, rfl, k2, rfl, rfl⟩ | ⟨k0, rfl, k2, rfl, rfl⟩
  all_goals
    first
      | (have HQ : Hid (ks = okNums ⟨t0, t1, t2, t3⟩ ⟨h0, h1, h2, h3⟩ ⟨f0, f1, f2, f3⟩) := by (show _ = _; rw [HR.out, k0, k2]; simp only [Bool.true_and]))
      | (have HQ : Hid (ks = false) := by (show _ = _; rw [HR.out, k0, k2]; rfl))
      | (have HQ : Hid (ks = false) := by (show _ = _; rw [HR.out, k0]; rfl))
    clear HR
    rw [HQ.out]
    have j0 : (a2 == 0) = !(a2 != 0) := by simp [bne]
    rw [k0] at j0
    (try first
      | (have p := of_decide_eq_true k2; subst p; obtain ⟨ad, rfl⟩ := HA.out (by decide))
      | (have d1 : ((n : Int) == 2) = false := len_is (k := 2) (of_decide_eq_false k2); have d0 : ((n : Int) != 2) = true := ne_of_beq' d1))
    go_enter Tryd.func19, Tryd.ntmps19
    go_upto_region 1 with fail
    generalize w.alloc (.cells _ 27) = w0 at *
    obtain ⟨x0, x1, x2, x3, x4, x5, x6, x7, x8, x9, x10, x11, x12, x13⟩ := cells14 HS0.out.1
    go_upto_region 3 with (go_at_call 47; refine (CT.out _).mono ?_; rintro r w1 ⟨rfl, hb1⟩; have HS1 := Lib.hid (HS0.out.next hb1 (by rfl) (by rfl) (by rfl) (by rfl)); clear x0 x1 x2 x3 x4 x5 x6 x7 x8 x9 x10 x11 x12 x13 hb1; obtain ⟨x0, x1, x2, x3, x4, x5, x6, x7, x8, x9, x10, x11, x12, x13⟩ := cells14 HS1.out.1)
    clear c0 c1 c3 c4 c5 c6 c7
    go_upto_region 9 with fail
    refine wp_region_held_drew (S := (fun W => (W.heap[w.heap.size]? = some (.cells #[.int .i64 a0, .int .i64 3, .int .i64 a2, .int .i64 a3, .int .i64 a4, .int .i64 t0, .int .i64 t1, .int .i64 t2, .int .i64 t3, .int .i64 h0, .int .i64 h1, .int .i64 h2, .int .i64 h3, .slice _ _ c] 27 (0, 0))) ∧ Below w.heap.size w W)) (by kernel_rfl) (⟨HS1.out.1, below_drawn HS1.out.2 1⟩) (fun hH => ?_)
    change wpAnyH _ _ _ _ _ 32 #[false, false, false, false, false, false, false, false, false, false, false, false, false, false, false, false, false, false, false, false, false, false, false, false, false, false, false, false, false, false, false, false] _ _
    refine held_take (i := 0) (v := ?_) (d := some 100) rfl rfl (by kernel_rfl) (by kernel_rfl) (by kernel_rfl) (fun _ _ _ h => h) hH ⟨?_, fun w hSw => ?_⟩ ?_
    rotate_left 1
    · rfl
    · (go_simp; all_goals with_reducible rfl)
    simp only [Act.put, List.setIfInBounds_toArray, List.set_cons_zero, List.set_cons_succ]
    refine held_take (i := 1) (v := ?_) (d := some 101) rfl rfl (by kernel_rfl) (by kernel_rfl) (by kernel_rfl) (fun _ _ _ h => h) hH ⟨?_, fun w hSw => ?_⟩ ?_
    rotate_left 1
    · rfl
    · obtain ⟨x0, x1, x2, x3, x4, x5, x6, x7, x8, x9, x10, x11, x12, x13⟩ := cells14 hSw.1
      (try obtain ⟨m0, m1, m2, m3⟩ := HF.out _ _ hSw.2 rfl (by decide))
      (try obtain ⟨n0, n1, n2, n3⟩ := HG.out _ _ hSw.2 rfl (by decide))
      (go_simp; all_goals with_reducible rfl)
    simp only [Act.put, List.setIfInBounds_toArray, List.set_cons_zero, List.set_cons_succ]
    refine held_take (i := 2) (v := ?_) (d := some 102) rfl rfl (by kernel_rfl) (by kernel_rfl) (by kernel_rfl) (fun _ _ _ h => h) hH ⟨?_, fun w hSw => ?_⟩ ?_
    rotate_left 1
    · rfl
    · (go_simp; all_goals with_reducible rfl)
    simp only [Act.put, List.setIfInBounds_toArray, List.set_cons_zero, List.set_cons_succ]
    refine held_take (i := 3) (v := ?_) (d := some 103) rfl rfl (by kernel_rfl) (by kernel_rfl) (by kernel_rfl) (fun _ _ _ h => h) hH ⟨?_, fun w hSw => ?_⟩ ?_
    rotate_left 1
    · rfl
    · (go_simp; all_goals with_reducible rfl)
    simp only [Act.put, List.setIfInBounds_toArray, List.set_cons_zero, List.set_cons_succ]
    first
      | refine held_skip (i := 4) (d := some 104) rfl rfl (by kernel_rfl) (by kernel_rfl) (by kernel_rfl) (fun _ _ _ h => h) hH ?_ ?_
        · rfl
        simp only [Act.put, List.setIfInBounds_toArray, List.set_cons_zero, List.set_cons_succ]
      | refine held_take (i := 4) (v := ?_) (d := some 104) rfl rfl (by kernel_rfl) (by kernel_rfl) (by kernel_rfl) (fun _ _ _ h => h) hH ⟨?_, fun w hSw => ?_⟩ ?_
        rotate_left 1
        · rfl
        · (go_simp; all_goals with_reducible rfl)
        simp only [Act.put, List.setIfInBounds_toArray, List.set_cons_zero, List.set_cons_succ]
    first
      | refine held_skip (i := 5) (d := some 105) rfl rfl (by kernel_rfl) (by kernel_rfl) (by kernel_rfl) (fun _ _ _ h => h) hH ?_ ?_
        · rfl
        simp only [Act.put, List.setIfInBounds_toArray, List.set_cons_zero, List.set_cons_succ]
      | refine held_take (i := 5) (v := ?_) (d := some 105) rfl rfl (by kernel_rfl) (by kernel_rfl) (by kernel_rfl) (fun _ _ _ h => h) hH ⟨?_, fun w hSw => ?_⟩ ?_
        rotate_left 1
        · rfl
        · obtain ⟨x0, x1, x2, x3, x4, x5, x6, x7, x8, x9, x10, x11, x12, x13⟩ := cells14 hSw.1
          (try obtain ⟨m0, m1, m2, m3⟩ := HF.out _ _ hSw.2 rfl (by decide))
          (try obtain ⟨n0, n1, n2, n3⟩ := HG.out _ _ hSw.2 rfl (by decide))
          (go_simp; all_goals with_reducible rfl)
        simp only [Act.put, List.setIfInBounds_toArray, List.set_cons_zero, List.set_cons_succ]
    first
      | refine held_skip (i := 6) (d := some 106) rfl rfl (by kernel_rfl) (by kernel_rfl) (by kernel_rfl) (fun _ _ _ h => h) hH ?_ ?_
        · rfl
        simp only [Act.put, List.setIfInBounds_toArray, List.set_cons_zero, List.set_cons_succ]
      | refine held_step (i := 6) rfl (by kernel_rfl) ?_ (fun K hK => ?_)
        · rfl
        clear hH
        go_simp
        refine (CH.out _).mono ?_
        rintro r w2 ⟨rfl, hb2⟩
        have HS2 := Lib.hid (HS1.out.next hb2 (by rfl) (by rfl) (by rfl) (by rfl))
        have hH := HS2.out
        refine hK _ _ hH ?_
        clear hK K
        simp only [List.setIfInBounds_toArray, List.set_cons_zero, List.set_cons_succ]
    first
      | refine held_skip (i := 7) (d := some 107) rfl rfl (by kernel_rfl) (by kernel_rfl) (by kernel_rfl) (fun _ _ _ h => h) hH ?_ ?_
        · rfl
        simp only [Act.put, List.setIfInBounds_toArray, List.set_cons_zero, List.set_cons_succ]
      | refine held_take (i := 7) (v := ?_) (d := some 107) rfl rfl (by kernel_rfl) (by kernel_rfl) (by kernel_rfl) (fun _ _ _ h => h) hH ⟨?_, fun w hSw => ?_⟩ ?_
        rotate_left 1
        · rfl
        · (go_simp; all_goals with_reducible rfl)
        simp only [Act.put, List.setIfInBounds_toArray, List.set_cons_zero, List.set_cons_succ]
    refine held_take (i := 8) (v := ?_) (d := some 108) rfl rfl (by kernel_rfl) (by kernel_rfl) (by kernel_rfl) (fun _ _ _ h => h) hH ⟨?_, fun w hSw => ?_⟩ ?_
    rotate_left 1
    · rfl
    · (go_simp; all_goals with_reducible rfl)
    simp only [Act.put, List.setIfInBounds_toArray, List.set_cons_zero, List.set_cons_succ]
    refine held_take (i := 9) (v := ?_) (d := some 109) rfl rfl (by kernel_rfl) (by kernel_rfl) (by kernel_rfl) (fun _ _ _ h => h) hH ⟨?_, fun w hSw => ?_⟩ ?_
    rotate_left 1
    · rfl
    · (go_simp; all_goals with_reducible rfl)
    simp only [Act.put, List.setIfInBounds_toArray, List.set_cons_zero, List.set_cons_succ]
    first
      | refine held_skip (i := 10) (d := some 110) rfl rfl (by kernel_rfl) (by kernel_rfl) (by kernel_rfl) (fun _ _ _ h => h) hH ?_ ?_
        · rfl
        simp only [Act.put, List.setIfInBounds_toArray, List.set_cons_zero, List.set_cons_succ]
      | refine held_take (i := 10) (v := ?_) (d := some 110) rfl rfl (by kernel_rfl) (by kernel_rfl) (by kernel_rfl) (fun _ _ _ h => h) hH ⟨?_, fun w hSw => ?_⟩ ?_
        rotate_left 1
        · rfl
        · (go_simp; all_goals with_reducible rfl)
        simp only [Act.put, List.setIfInBounds_toArray, List.set_cons_zero, List.set_cons_succ]
    first
      | refine held_skip (i := 11) (d := some 111) rfl rfl (by kernel_rfl) (by kernel_rfl) (by kernel_rfl) (fun _ _ _ h => h) hH ?_ ?_
        · rfl
        simp only [Act.put, List.setIfInBounds_toArray, List.set_cons_zero, List.set_cons_succ]
      | refine held_take (i := 11) (v := ?_) (d := some 111) rfl rfl (by kernel_rfl) (by kernel_rfl) (by kernel_rfl) (fun _ _ _ h => h) hH ⟨?_, fun w hSw => ?_⟩ ?_
        rotate_left 1
        · rfl
        · obtain ⟨x0, x1, x2, x3, x4, x5, x6, x7, x8, x9, x10, x11, x12, x13⟩ := cells14 hSw.1
          (try obtain ⟨m0, m1, m2, m3⟩ := HF.out _ _ hSw.2 rfl (by decide))
          (try obtain ⟨n0, n1, n2, n3⟩ := HG.out _ _ hSw.2 rfl (by decide))
          (go_simp; all_goals with_reducible rfl)
        simp only [Act.put, List.setIfInBounds_toArray, List.set_cons_zero, List.set_cons_succ]
    first
      | refine held_skip (i := 12) (d := some 112) rfl rfl (by kernel_rfl) (by kernel_rfl) (by kernel_rfl) (fun _ _ _ h => h) hH ?_ ?_
        · rfl
        simp only [Act.put, List.setIfInBounds_toArray, List.set_cons_zero, List.set_cons_succ]
      | refine held_take (i := 12) (v := ?_) (d := some 112) rfl rfl (by kernel_rfl) (by kernel_rfl) (by kernel_rfl) (fun _ _ _ h => h) hH ⟨?_, fun w hSw => ?_⟩ ?_
        rotate_left 1
        · rfl
        · (go_simp; all_goals with_reducible rfl)
        simp only [Act.put, List.setIfInBounds_toArray, List.set_cons_zero, List.set_cons_succ]
    first
      | refine held_skip (i := 13) (d := some 113) rfl rfl (by kernel_rfl) (by kernel_rfl) (by kernel_rfl) (fun _ _ _ h => h) hH ?_ ?_
        · rfl
        simp only [Act.put, List.setIfInBounds_toArray, List.set_cons_zero, List.set_cons_succ]
      | refine held_take (i := 13) (v := ?_) (d := some 113) rfl rfl (by kernel_rfl) (by kernel_rfl) (by kernel_rfl) (fun _ _ _ h => h) hH ⟨?_, fun w hSw => ?_⟩ ?_
        rotate_left 1
        · rfl
        · (go_simp; all_goals with_reducible rfl)
        simp only [Act.put, List.setIfInBounds_toArray, List.set_cons_zero, List.set_cons_succ]
    refine held_take (i := 14) (v := ?_) (d := some 114) rfl rfl (by kernel_rfl) (by kernel_rfl) (by kernel_rfl) (fun _ _ _ h => h) hH ⟨?_, fun w hSw => ?_⟩ ?_
    rotate_left 1
    · rfl
    · (go_simp; all_goals with_reducible rfl)
    simp only [Act.put, List.setIfInBounds_toArray, List.set_cons_zero, List.set_cons_succ]
    refine held_take (i := 15) (v := ?_) (d := some 115) rfl rfl (by kernel_rfl) (by kernel_rfl) (by kernel_rfl) (fun _ _ _ h => h) hH ⟨?_, fun w hSw => ?_⟩ ?_
    rotate_left 1
    · rfl
    · (go_simp; all_goals with_reducible rfl)
    simp only [Act.put, List.setIfInBounds_toArray, List.set_cons_zero, List.set_cons_succ]
    first
      | refine held_skip (i := 16) (d := some 116) rfl rfl (by kernel_rfl) (by kernel_rfl) (by kernel_rfl) (fun _ _ _ h => h) hH ?_ ?_
        · rfl
        simp only [Act.put, List.setIfInBounds_toArray, List.set_cons_zero, List.set_cons_succ]
      | refine held_take (i := 16) (v := ?_) (d := some 116) rfl rfl (by kernel_rfl) (by kernel_rfl) (by kernel_rfl) (fun _ _ _ h => h) hH ⟨?_, fun w hSw => ?_⟩ ?_
        rotate_left 1
        · rfl
        · (go_simp; all_goals with_reducible rfl)
        simp only [Act.put, List.setIfInBounds_toArray, List.set_cons_zero, List.set_cons_succ]
    first
      | refine held_skip (i := 17) (d := some 117) rfl rfl (by kernel_rfl) (by kernel_rfl) (by kernel_rfl) (fun _ _ _ h => h) hH ?_ ?_
        · rfl
        simp only [Act.put, List.setIfInBounds_toArray, List.set_cons_zero, List.set_cons_succ]
      | refine held_take (i := 17) (v := ?_) (d := some 117) rfl rfl (by kernel_rfl) (by kernel_rfl) (by kernel_rfl) (fun _ _ _ h => h) hH ⟨?_, fun w hSw => ?_⟩ ?_
        rotate_left 1
        · rfl
        · obtain ⟨x0, x1, x2, x3, x4, x5, x6, x7, x8, x9, x10, x11, x12, x13⟩ := cells14 hSw.1
          (try obtain ⟨m0, m1, m2, m3⟩ := HF.out _ _ hSw.2 rfl (by decide))
          (try obtain ⟨n0, n1, n2, n3⟩ := HG.out _ _ hSw.2 rfl (by decide))
          (go_simp; all_goals with_reducible rfl)
        simp only [Act.put, List.setIfInBounds_toArray, List.set_cons_zero, List.set_cons_succ]
    first
      | refine held_skip (i := 18) (d := some 118) rfl rfl (by kernel_rfl) (by kernel_rfl) (by kernel_rfl) (fun _ _ _ h => h) hH ?_ ?_
        · rfl
        simp only [Act.put, List.setIfInBounds_toArray, List.set_cons_zero, List.set_cons_succ]
      | refine held_take (i := 18) (v := ?_) (d := some 118) rfl rfl (by kernel_rfl) (by kernel_rfl) (by kernel_rfl) (fun _ _ _ h => h) hH ⟨?_, fun w hSw => ?_⟩ ?_
        rotate_left 1
        · rfl
        · obtain ⟨x0, x1, x2, x3, x4, x5, x6, x7, x8, x9, x10, x11, x12, x13⟩ := cells14 hSw.1
          (try obtain ⟨m0, m1, m2, m3⟩ := HF.out _ _ hSw.2 rfl (by decide))
          (try obtain ⟨n0, n1, n2, n3⟩ := HG.out _ _ hSw.2 rfl (by decide))
          (go_simp; all_goals with_reducible rfl)
        simp only [Act.put, List.setIfInBounds_toArray, List.set_cons_zero, List.set_cons_succ]
    first
      | refine held_skip (i := 19) (d := some 119) rfl rfl (by kernel_rfl) (by kernel_rfl) (by kernel_rfl) (fun _ _ _ h => h) hH ?_ ?_
        · rfl
        simp only [Act.put, List.setIfInBounds_toArray, List.set_cons_zero, List.set_cons_succ]
      | refine held_take (i := 19) (v := ?_) (d := some 119) rfl rfl (by kernel_rfl) (by kernel_rfl) (by kernel_rfl) (fun _ _ _ h => h) hH ⟨?_, fun w hSw => ?_⟩ ?_
        rotate_left 1
        · rfl
        · obtain ⟨x0, x1, x2, x3, x4, x5, x6, x7, x8, x9, x10, x11, x12, x13⟩ := cells14 hSw.1
          (try obtain ⟨m0, m1, m2, m3⟩ := HF.out _ _ hSw.2 rfl (by decide))
          (try obtain ⟨n0, n1, n2, n3⟩ := HG.out _ _ hSw.2 rfl (by decide))
          (go_simp; all_goals with_reducible rfl)
        simp only [Act.put, List.setIfInBounds_toArray, List.set_cons_zero, List.set_cons_succ]
    first
      | refine held_skip (i := 20) (d := some 120) rfl rfl (by kernel_rfl) (by kernel_rfl) (by kernel_rfl) (fun _ _ _ h => h) hH ?_ ?_
        · rfl
        simp only [Act.put, List.setIfInBounds_toArray, List.set_cons_zero, List.set_cons_succ]
      | refine held_take (i := 20) (v := ?_) (d := some 120) rfl rfl (by kernel_rfl) (by kernel_rfl) (by kernel_rfl) (fun _ _ _ h => h) hH ⟨?_, fun w hSw => ?_⟩ ?_
        rotate_left 1
        · rfl
        · (go_simp; all_goals with_reducible rfl)
        simp only [Act.put, List.setIfInBounds_toArray, List.set_cons_zero, List.set_cons_succ]
    first
      | refine held_skip (i := 21) (d := some 121) rfl rfl (by kernel_rfl) (by kernel_rfl) (by kernel_rfl) (fun _ _ _ h => h) hH ?_ ?_
        · rfl
        simp only [Act.put, List.setIfInBounds_toArray, List.set_cons_zero, List.set_cons_succ]
      | refine held_take (i := 21) (v := ?_) (d := some 121) rfl rfl (by kernel_rfl) (by kernel_rfl) (by kernel_rfl) (fun _ _ _ h => h) hH ⟨?_, fun w hSw => ?_⟩ ?_
        rotate_left 1
        · rfl
        · obtain ⟨x0, x1, x2, x3, x4, x5, x6, x7, x8, x9, x10, x11, x12, x13⟩ := cells14 hSw.1
          (try obtain ⟨m0, m1, m2, m3⟩ := HF.out _ _ hSw.2 rfl (by decide))
          (try obtain ⟨n0, n1, n2, n3⟩ := HG.out _ _ hSw.2 rfl (by decide))
          (go_simp; all_goals with_reducible rfl)
        simp only [Act.put, List.setIfInBounds_toArray, List.set_cons_zero, List.set_cons_succ]
    first
      | refine held_skip (i := 22) (d := some 122) rfl rfl (by kernel_rfl) (by kernel_rfl) (by kernel_rfl) (fun _ _ _ h => h) hH ?_ ?_
        · rfl
        simp only [Act.put, List.setIfInBounds_toArray, List.set_cons_zero, List.set_cons_succ]
      | refine held_take (i := 22) (v := ?_) (d := some 122) rfl rfl (by kernel_rfl) (by kernel_rfl) (by kernel_rfl) (fun _ _ _ h => h) hH ⟨?_, fun w hSw => ?_⟩ ?_
        rotate_left 1
        · rfl
        · (go_simp; all_goals with_reducible rfl)
        simp only [Act.put, List.setIfInBounds_toArray, List.set_cons_zero, List.set_cons_succ]
    refine held_take (i := 23) (v := ?_) (d := some 123) rfl rfl (by kernel_rfl) (by kernel_rfl) (by kernel_rfl) (fun _ _ _ h => h) hH ⟨?_, fun w hSw => ?_⟩ ?_
    rotate_left 1
    · rfl
    · (go_simp; all_goals with_reducible rfl)
    simp only [Act.put, List.setIfInBounds_toArray, List.set_cons_zero, List.set_cons_succ]
    refine held_take (i := 24) (v := ?_) (d := some 124) rfl rfl (by kernel_rfl) (by kernel_rfl) (by kernel_rfl) (fun _ _ _ h => h) hH ⟨?_, fun w hSw => ?_⟩ ?_
    rotate_left 1
    · rfl
    · (go_simp; all_goals with_reducible rfl)
    simp only [Act.put, List.setIfInBounds_toArray, List.set_cons_zero, List.set_cons_succ]
    first
      | refine held_skip (i := 25) (d := some 125) rfl rfl (by kernel_rfl) (by kernel_rfl) (by kernel_rfl) (fun _ _ _ h => h) hH ?_ ?_
        · rfl
        simp only [Act.put, List.setIfInBounds_toArray, List.set_cons_zero, List.set_cons_succ]
      | refine held_take (i := 25) (v := ?_) (d := some 125) rfl rfl (by kernel_rfl) (by kernel_rfl) (by kernel_rfl) (fun _ _ _ h => h) hH ⟨?_, fun w hSw => ?_⟩ ?_
        rotate_left 1
        · rfl
        · (go_simp; all_goals with_reducible rfl)
        simp only [Act.put, List.setIfInBounds_toArray, List.set_cons_zero, List.set_cons_succ]
    first
      | refine held_skip (i := 26) (d := some 126) rfl rfl (by kernel_rfl) (by kernel_rfl) (by kernel_rfl) (fun _ _ _ h => h) hH ?_ ?_
        · rfl
        simp only [Act.put, List.setIfInBounds_toArray, List.set_cons_zero, List.set_cons_succ]
      | refine held_take (i := 26) (v := ?_) (d := some 126) rfl rfl (by kernel_rfl) (by kernel_rfl) (by kernel_rfl) (fun _ _ _ h => h) hH ⟨?_, fun w hSw => ?_⟩ ?_
        rotate_left 1
        · rfl
        · obtain ⟨x0, x1, x2, x3, x4, x5, x6, x7, x8, x9, x10, x11, x12, x13⟩ := cells14 hSw.1
          (try obtain ⟨m0, m1, m2, m3⟩ := HF.out _ _ hSw.2 rfl (by decide))
          (try obtain ⟨n0, n1, n2, n3⟩ := HG.out _ _ hSw.2 rfl (by decide))
          (go_simp; all_goals with_reducible rfl)
        simp only [Act.put, List.setIfInBounds_toArray, List.set_cons_zero, List.set_cons_succ]
    first
      | refine held_skip (i := 27) (d := some 127) rfl rfl (by kernel_rfl) (by kernel_rfl) (by kernel_rfl) (fun _ _ _ h => h) hH ?_ ?_
        · rfl
        simp only [Act.put, List.setIfInBounds_toArray, List.set_cons_zero, List.set_cons_succ]
      | refine held_take (i := 27) (v := ?_) (d := some 127) rfl rfl (by kernel_rfl) (by kernel_rfl) (by kernel_rfl) (fun _ _ _ h => h) hH ⟨?_, fun w hSw => ?_⟩ ?_
        rotate_left 1
        · rfl
        · obtain ⟨x0, x1, x2, x3, x4, x5, x6, x7, x8, x9, x10, x11, x12, x13⟩ := cells14 hSw.1
          (try obtain ⟨m0, m1, m2, m3⟩ := HF.out _ _ hSw.2 rfl (by decide))
          (try obtain ⟨n0, n1, n2, n3⟩ := HG.out _ _ hSw.2 rfl (by decide))
          (go_simp; all_goals with_reducible rfl)
        simp only [Act.put, List.setIfInBounds_toArray, List.set_cons_zero, List.set_cons_succ]
    first
      | refine held_skip (i := 28) (d := some 128) rfl rfl (by kernel_rfl) (by kernel_rfl) (by kernel_rfl) (fun _ _ _ h => h) hH ?_ ?_
        · rfl
        simp only [Act.put, List.setIfInBounds_toArray, List.set_cons_zero, List.set_cons_succ]
      | refine held_take (i := 28) (v := ?_) (d := some 128) rfl rfl (by kernel_rfl) (by kernel_rfl) (by kernel_rfl) (fun _ _ _ h => h) hH ⟨?_, fun w hSw => ?_⟩ ?_
        rotate_left 1
        · rfl
        · obtain ⟨x0, x1, x2, x3, x4, x5, x6, x7, x8, x9, x10, x11, x12, x13⟩ := cells14 hSw.1
          (try obtain ⟨m0, m1, m2, m3⟩ := HF.out _ _ hSw.2 rfl (by decide))
          (try obtain ⟨n0, n1, n2, n3⟩ := HG.out _ _ hSw.2 rfl (by decide))
          (go_simp; all_goals with_reducible rfl)
        simp only [Act.put, List.setIfInBounds_toArray, List.set_cons_zero, List.set_cons_succ]
    first
      | refine held_skip (i := 29) (d := some 129) rfl rfl (by kernel_rfl) (by kernel_rfl) (by kernel_rfl) (fun _ _ _ h => h) hH ?_ ?_
        · rfl
        simp only [Act.put, List.setIfInBounds_toArray, List.set_cons_zero, List.set_cons_succ]
      | refine held_step (i := 29) rfl (by kernel_rfl) ?_ (fun K hK => ?_)
        · rfl
        clear hH
        go_simp
        refine (CE.out _).mono ?_
        rintro r w3 ⟨rfl, hb3⟩
        have HS3 := Lib.hid (HS2.out.next hb3 (by rfl) (by rfl) (by rfl) (by rfl))
        have hH := HS3.out
        refine hK _ _ hH ?_
        clear hK K
        simp only [List.setIfInBounds_toArray, List.set_cons_zero, List.set_cons_succ]
    first
      | refine held_skip (i := 30) (d := some 130) rfl rfl (by kernel_rfl) (by kernel_rfl) (by kernel_rfl) (fun _ _ _ h => h) hH ?_ ?_
        · rfl
        simp only [Act.put, List.setIfInBounds_toArray, List.set_cons_zero, List.set_cons_succ]
      | refine held_take (i := 30) (v := ?_) (d := some 130) rfl rfl (by kernel_rfl) (by kernel_rfl) (by kernel_rfl) (fun _ _ _ h => h) hH ⟨?_, fun w hSw => ?_⟩ ?_
        rotate_left 1
        · rfl
        · (go_simp; all_goals with_reducible rfl)
        simp only [Act.put, List.setIfInBounds_toArray, List.set_cons_zero, List.set_cons_succ]
    refine held_take (i := 31) (v := ?_) (d := some 131) rfl rfl (by kernel_rfl) (by kernel_rfl) (by kernel_rfl) (fun _ _ _ h => h) hH ⟨?_, fun w hSw => ?_⟩ ?_
    rotate_left 1
    · rfl
    · (go_simp; all_goals with_reducible rfl)
    simp only [Act.put, List.setIfInBounds_toArray, List.set_cons_zero, List.set_cons_succ]
    refine wpAnyH_done (by kernel_rfl) ?_ _
  rotate_left 5
  · go_upto_region 11 with fail
    have HLT : Hid (w.heap.size < w3.heap.size) := (Array.getElem?_eq_some_iff.1 HS3.out.1).1
    have HM := Lib.hid (fun c0 c1 c2 t => three_made HS3.out.2 c0 c1 c2 t)
    go_cut [3, 4, 5] (fun s3 s4 s5 wx => ∃ g3 g4 g5, s3 = .pointer (some ⟨g3, 0, none⟩) ∧ s4 = .pointer (some ⟨g4, 0, none⟩) ∧ s5 = .pointer (some ⟨g5, 0, none⟩) ∧ Hid (ThreeAt w (.cells #[.int .i64 t0, .int .i64 t1, .int .i64 t2, .int .i64 t3] 24 (0, 0)) (.cells #[.int .i64 h0, .int .i64 h1, .int .i64 h2, .int .i64 h3] 24 (0, 0)) (.cells #[.int .i64 f0, .int .i64 f1, .int .i64 f2, .int .i64 f3] 24 (0, 0)) g3 g4 g5 wx))
    case first =>
      have HK : Hid (∀ W, Below w3.heap.size w3 W → (W.cell? ⟨w.heap.size, 5, none⟩ = some (.int .i64 t0) ∧ W.cell? ⟨w.heap.size, 6, none⟩ = some (.int .i64 t1) ∧ W.cell? ⟨w.heap.size, 7, none⟩ = some (.int .i64 t2) ∧ W.cell? ⟨w.heap.size, 8, none⟩ = some (.int .i64 t3) ∧ W.cell? ⟨w.heap.size, 9, none⟩ = some (.int .i64 h0) ∧ W.cell? ⟨w.heap.size, 10, none⟩ = some (.int .i64 h1) ∧ W.cell? ⟨w.heap.size, 11, none⟩ = some (.int .i64 h2) ∧ W.cell? ⟨w.heap.size, 12, none⟩ = some (.int .i64 h3) ∧ W.cell? ⟨w.heap.size, 13, none⟩ = some (.slice (some ad) 2 c)) ∧ W.cell? ⟨ad.block, ad.off + 4, none⟩ = some (.int .i64 f0) ∧ W.cell? ⟨ad.block, ad.off + 5, none⟩ = some (.int .i64 f1) ∧ W.cell? ⟨ad.block, ad.off + 6, none⟩ = some (.int .i64 f2) ∧ W.cell? ⟨ad.block, ad.off + 7, none⟩ = some (.int .i64 f3)) := fun W hW => by
        have hS := HS3.out.next hW rfl rfl rfl rfl
        obtain ⟨y0, y1, y2, y3, y4, y5, y6, y7, y8, y9, y10, y11, y12, y13⟩ := cells14 hS.1
        exact ⟨⟨y5, y6, y7, y8, y9, y10, y11, y12, y13⟩, HG.out _ _ hS.2 rfl (by decide)⟩
      obtain ⟨⟨y5, y6, y7, y8, y9, y10, y11, y12, y13⟩, n0, n1, n2, n3⟩ := HK.out w3 (Below.refl _ _)
      have HB1 : Hid (∀ o, Below w3.heap.size w3 (w3.alloc o)) := fun o => (Below.refl _ _).alloc (Nat.le_refl _) _
      have HB2 : Hid (∀ o o', Below w3.heap.size w3 ((w3.alloc o).alloc o')) := fun o o' => (HB1.out o).alloc (by simp) _
      have HB3 : Hid (∀ o o' o'', Below w3.heap.size w3 (((w3.alloc o).alloc o').alloc o'')) := fun o o' o'' => (HB2.out o o').alloc (by simp; omega) _
      clear x0 x1 x2 x3 x4 x5 x6 x7 x8 x9 x10 x11 x12 x13
      go_region_held3 (fun W => (W.cell? ⟨w.heap.size, 5, none⟩ = some (.int .i64 t0) ∧ W.cell? ⟨w.heap.size, 6, none⟩ = some (.int .i64 t1) ∧ W.cell? ⟨w.heap.size, 7, none⟩ = some (.int .i64 t2) ∧ W.cell? ⟨w.heap.size, 8, none⟩ = some (.int .i64 t3) ∧ W.cell? ⟨w.heap.size, 9, none⟩ = some (.int .i64 h0) ∧ W.cell? ⟨w.heap.size, 10, none⟩ = some (.int .i64 h1) ∧ W.cell? ⟨w.heap.size, 11, none⟩ = some (.int .i64 h2) ∧ W.cell? ⟨w.heap.size, 12, none⟩ = some (.int .i64 h3) ∧ W.cell? ⟨w.heap.size, 13, none⟩ = some (.slice (some ad) 2 c)) ∧ W.cell? ⟨ad.block, ad.off + 4, none⟩ = some (.int .i64 f0) ∧ W.cell? ⟨ad.block, ad.off + 5, none⟩ = some (.int .i64 f1) ∧ W.cell? ⟨ad.block, ad.off + 6, none⟩ = some (.int .i64 f2) ∧ W.cell? ⟨ad.block, ad.off + 7, none⟩ = some (.int .i64 f3))
        (first
          | with_reducible exact HK.out _ (HB3.out _ _ _).drew
          | with_reducible exact HK.out _ (HB2.out _ _).drew
          | with_reducible exact HK.out _ (HB1.out _).drew
          | with_reducible exact HK.out _ (Below.refl _ _).drew
          | with_reducible exact HK.out _ (HB3.out _ _ _)
          | with_reducible exact HK.out _ (HB2.out _ _)
          | with_reducible exact HK.out _ (HB1.out _))
        (first
          | fail)
      all_goals
        go_wp2_with fail
        go_meet
        first
          | (have hm := HM.out #[.int .i64 t0, .int .i64 t1, .int .i64 t2, .int .i64 t3] #[.int .i64 h0, .int .i64 h1, .int .i64 h2, .int .i64 h3] #[.int .i64 f0, .int .i64 f1, .int .i64 f2, .int .i64 f3] 24; exact ⟨_, _, _, rfl, rfl, rfl, hm.1.1, hm.1.2.1, hm.1.2.2, hm.2.drew⟩)
          | (have hm := HM.out #[.int .i64 t0, .int .i64 t1, .int .i64 t2, .int .i64 t3] #[.int .i64 f0, .int .i64 f1, .int .i64 f2, .int .i64 f3] #[.int .i64 h0, .int .i64 h1, .int .i64 h2, .int .i64 h3] 24; exact ⟨_, _, _, rfl, rfl, rfl, hm.1.1, hm.1.2.2, hm.1.2.1, hm.2.drew⟩)
          | (have hm := HM.out #[.int .i64 h0, .int .i64 h1, .int .i64 h2, .int .i64 h3] #[.int .i64 t0, .int .i64 t1, .int .i64 t2, .int .i64 t3] #[.int .i64 f0, .int .i64 f1, .int .i64 f2, .int .i64 f3] 24; exact ⟨_, _, _, rfl, rfl, rfl, hm.1.2.1, hm.1.1, hm.1.2.2, hm.2.drew⟩)
          | (have hm := HM.out #[.int .i64 h0, .int .i64 h1, .int .i64 h2, .int .i64 h3] #[.int .i64 f0, .int .i64 f1, .int .i64 f2, .int .i64 f3] #[.int .i64 t0, .int .i64 t1, .int .i64 t2, .int .i64 t3] 24; exact ⟨_, _, _, rfl, rfl, rfl, hm.1.2.2, hm.1.1, hm.1.2.1, hm.2.drew⟩)
          | (have hm := HM.out #[.int .i64 f0, .int .i64 f1, .int .i64 f2, .int .i64 f3] #[.int .i64 t0, .int .i64 t1, .int .i64 t2, .int .i64 t3] #[.int .i64 h0, .int .i64 h1, .int .i64 h2, .int .i64 h3] 24; exact ⟨_, _, _, rfl, rfl, rfl, hm.1.2.1, hm.1.2.2, hm.1.1, hm.2.drew⟩)
          | (have hm := HM.out #[.int .i64 f0, .int .i64 f1, .int .i64 f2, .int .i64 f3] #[.int .i64 h0, .int .i64 h1, .int .i64 h2, .int .i64 h3] #[.int .i64 t0, .int .i64 t1, .int .i64 t2, .int .i64 t3] 24; exact ⟨_, _, _, rfl, rfl, rfl, hm.1.2.2, hm.1.2.1, hm.1.1, hm.2.drew⟩)
    case rest =>
      obtain ⟨g3, g4, g5, rfl, rfl, rfl, HT⟩ := hcut
      generalize wc = w4 at *
      obtain ⟨y0, y1, y2, y3⟩ := four_cells HT.out.1
      obtain ⟨m0, m1, m2, m3⟩ := four_cells HT.out.2.1
      obtain ⟨n0, n1, n2, n3⟩ := four_cells HT.out.2.2.1
      clear x0 x1 x2 x3 x4 x5 x6 x7 x8 x9 x10 x11 x12 x13 HM HLT HS0 HS1 HS2 HS3 HF HG HA
      rcases ways5 (t0 != h0) (t0 != f0) (h0 != f0) (t1 == h1) (t2 == h2) with k0 | ⟨k0, k1⟩ | ⟨k0, k1, k2⟩ | ⟨k0, k1, k2, k3⟩ | ⟨k0, k1, k2, k3, k4⟩ | ⟨k0, k1, k2, k3, k4⟩
      all_goals
        go_wp2
        go_ret
        refine ⟨ret_bool ?_, HT.out.2.2.2⟩
        unfold okNums
        simp only
        first
          | (rw [k0, k1, k2, k3, k4]; rfl)
          | (rw [k0, k1, k2, k3]; rfl)
          | (rw [k0, k1, k2]; rfl)
          | (rw [k0, k1]; rfl)
          | (rw [k0]; rfl)
  all_goals
    (try go_wp2_with fail)
    go_ret
    first
      | exact ⟨rfl, HS3.out.2⟩
      | exact ⟨rfl, HS2.out.2⟩
      | exact ⟨rfl, below_drawn HS1.out.2 1⟩
end Go.Proofs.YtcjnhemlkahgoaaDoor
end
section
namespace Go.Proofs.YtcjnhemlkahgoaaDoor
open Go.RowKit
set_option maxHeartbeats 8000000 in
set_option maxRecDepth 100000 in
theorem refsbvalid_other (a0 a1 a2 a3 a4 t0 t1 t2 t3 h0 h1 h2 h3 : Int) (A : Option Addr) (n c : Nat) (l : List Sb.L) (w : World) (hl : Hid (l.length = n)) (hk : Sb.form ⟨t0, t1, t2, t3⟩) (c0 : decide (a0 < 1) = false) (c1 : decide (1099511627775 < a0) = false) (c2 : decide (a2 < 0) = false) (c3 : decide (4294967295 < a2) = false) (c4 : decide (a3 < 0) = false) (c5 : decide (281474976710655 < a3) = false) (c6 : decide (a4 < 0) = false) (c7 : decide (549755813888 < a4) = false) (p2 : a1 ≠ 2) (p3 : a1 ≠ 3) :
    Calls Tryd.prog 19 #[.agg #[.int .i64 a0, .int .i64 a1, .int .i64 a2, .int .i64 a3, .int .i64 a4, .int .i64 t0, .int .i64 t1, .int .i64 t2, .int .i64 t3, .int .i64 h0, .int .i64 h1, .int .i64 h2, .int .i64 h3, .slice A n c]] w
      fun r w' => r = .returned (.bool (decide (Sb.valid ⟨a0, a1, a2, a3, a4, ⟨t0, t1, t2, t3⟩, ⟨h0, h1, h2, h3⟩, l⟩))) ∧ Below w.heap.size w w' := by
  have HV := Lib.hid (valid_bool ⟨a0, a1, a2, a3, a4, ⟨t0, t1, t2, t3⟩, ⟨h0, h1, h2, h3⟩, l⟩)
  simp only [range_bool] at HV
  rw [c0, c1, c2, c3, c4, c5, c6, c7, decide_eq_true hk] at HV
  simp only [Bool.not_false, Bool.true_and] at HV
  rw [HV.out]
  clear HV
  have HV1 := Lib.hid (@suits_one ⟨a0, a1, a2, a3, a4, ⟨t0, t1, t2, t3⟩, ⟨h0, h1, h2, h3⟩, l⟩)
  have HV4 := Lib.hid (@suits_none ⟨a0, a1, a2, a3, a4, ⟨t0, t1, t2, t3⟩, ⟨h0, h1, h2, h3⟩, l⟩)
  simp only [hl.out] at HV1 HV4
  generalize decide (Sb.suits ⟨a0, a1, a2, a3, a4, ⟨t0, t1, t2, t3⟩, ⟨h0, h1, h2, h3⟩, l⟩) = ks at *
  have CT : Hid (∀ W, Calls Tryd.prog 47 #[.agg #[.int .i64 t0, .int .i64 t1, .int .i64 t2, .int .i64 t3]] W fun r w' => r = .returned (.bool true) ∧ Below W.heap.size W w') := fun W => by
    have h := refsbform_any t0 t1 t2 t3 W
    rwa [decide_eq_true hk] at h
  clear hk
  have q1 : ∀ W : World, (Op.equalIn 10000 24 (.agg #[.int .i64 h0, .int .i64 h1, .int .i64 h2, .int .i64 h3]) (.agg #[.int .i64 0, .int .i64 0, .int .i64 0, .int .i64 0])).run Tryd.prog W = .ok (Sb.sameL ⟨h0, h1, h2, h3⟩ Sb.L0) W := fun W : World => lay_eq W h0 h1 h2 h3 0 0 0 0
  generalize Sb.sameL ⟨h0, h1, h2, h3⟩ Sb.L0 = kz at *
  clear hl
  have HS0 := Lib.hid (sd_new w #[.int .i64 a0, .int .i64 a1, .int .i64 a2, .int .i64 a3, .int .i64 a4, .int .i64 t0, .int .i64 t1, .int .i64 t2, .int .i64 t3, .int .i64 h0, .int .i64 h1, .int .i64 h2, .int .i64 h3, .slice A n c] 27)
  by_cases p1 : a1 = 1
  · subst p1
    have HR : Hid (ks = (kz && decide (n = 0))) := HV1.out rfl
    clear HV1 HV4 p2 p3
    have d0 : ((n : Int) == 0) = decide (n = 0) := by by_cases h : n = 0 <;> simp [h]
    rw [HR.out]
    generalize decide (n = 0) = kn at *
    cases kz
    all_goals
      go_enter Tryd.func19, Tryd.ntmps19
      go_upto_region 1 with fail
      generalize w.alloc (.cells _ 27) = w0 at *
      obtain ⟨x0, x1, x2, x3, x4, x5, x6, x7, x8, x9, x10, x11, x12, x13⟩ := cells14 HS0.out.1
      go_upto_region 3 with (go_at_call 47; refine (CT.out _).mono ?_; rintro r w1 ⟨rfl, hb1⟩; have HS1 := Lib.hid (HS0.out.next hb1 (by rfl) (by rfl) (by rfl) (by rfl)); clear x0 x1 x2 x3 x4 x5 x6 x7 x8 x9 x10 x11 x12 x13 hb1; obtain ⟨x0, x1, x2, x3, x4, x5, x6, x7, x8, x9, x10, x11, x12, x13⟩ := cells14 HS1.out.1)
      clear c0 c1 c3 c4 c5 c6 c7
      go_wp2
      go_ret
      exact ⟨ret_bool (by simp), HS1.out.2⟩
  · have HR : Hid (ks = false) := HV4.out p1 p2 p3
    clear HV1 HV4
    rw [HR.out]
    have d1 := beq_no p1
    have d2 := beq_no p2
    have d3 := beq_no p3
    go_enter Tryd.func19, Tryd.ntmps19
    go_upto_region 1 with fail
    generalize w.alloc (.cells _ 27) = w0 at *
    obtain ⟨x0, x1, x2, x3, x4, x5, x6, x7, x8, x9, x10, x11, x12, x13⟩ := cells14 HS0.out.1
    go_upto_region 3 with (go_at_call 47; refine (CT.out _).mono ?_; rintro r w1 ⟨rfl, hb1⟩; have HS1 := Lib.hid (HS0.out.next hb1 (by rfl) (by rfl) (by rfl) (by rfl)); clear x0 x1 x2 x3 x4 x5 x6 x7 x8 x9 x10 x11 x12 x13 hb1; obtain ⟨x0, x1, x2, x3, x4, x5, x6, x7, x8, x9, x10, x11, x12, x13⟩ := cells14 HS1.out.1)
    clear c0 c1 c3 c4 c5 c6 c7
    go_wp2
    go_ret
    exact ⟨rfl, HS1.out.2⟩
set_option maxHeartbeats 8000000 in
set_option maxRecDepth 100000 in
theorem refsbvalid_bad (a0 a1 a2 a3 a4 t0 t1 t2 t3 h0 h1 h2 h3 : Int) (A : Option Addr) (n c : Nat) (l : List Sb.L) (w : World) (hk : Sb.form ⟨t0, t1, t2, t3⟩ → decide (a0 < 1) = true ∨ decide (1099511627775 < a0) = true ∨ decide (a2 < 0) = true ∨ decide (4294967295 < a2) = true ∨ decide (a3 < 0) = true ∨ decide (281474976710655 < a3) = true ∨ decide (a4 < 0) = true ∨ decide (549755813888 < a4) = true) :
    Calls Tryd.prog 19 #[.agg #[.int .i64 a0, .int .i64 a1, .int .i64 a2, .int .i64 a3, .int .i64 a4, .int .i64 t0, .int .i64 t1, .int .i64 t2, .int .i64 t3, .int .i64 h0, .int .i64 h1, .int .i64 h2, .int .i64 h3, .slice A n c]] w
      fun r w' => r = .returned (.bool (decide (Sb.valid ⟨a0, a1, a2, a3, a4, ⟨t0, t1, t2, t3⟩, ⟨h0, h1, h2, h3⟩, l⟩))) ∧ Below w.heap.size w w' := by
  have HV := Lib.hid (valid_bool ⟨a0, a1, a2, a3, a4, ⟨t0, t1, t2, t3⟩, ⟨h0, h1, h2, h3⟩, l⟩)
  simp only [range_bool] at HV
  generalize decide (Sb.valid ⟨a0, a1, a2, a3, a4, ⟨t0, t1, t2, t3⟩, ⟨h0, h1, h2, h3⟩, l⟩) = res at *
  have HS0 := Lib.hid (sd_new w #[.int .i64 a0, .int .i64 a1, .int .i64 a2, .int .i64 a3, .int .i64 a4, .int .i64 t0, .int .i64 t1, .int .i64 t2, .int .i64 t3, .int .i64 h0, .int .i64 h1, .int .i64 h2, .int .i64 h3, .slice A n c] 27)
  have CT := Lib.hid (fun W => refsbform_any t0 t1 t2 t3 W)
  have HK := Lib.hid hk
  clear hk
  rcases yes8 (decide (a0 < 1)) (decide (1099511627775 < a0)) (decide (a2 < 0)) (decide (4294967295 < a2)) (decide (a3 < 0)) (decide (281474976710655 < a3)) (decide (a4 < 0)) (decide (549755813888 < a4)) with c0 | ⟨c0, c1⟩ | ⟨c0, c1, c2⟩ | ⟨c0, c1, c2, c3⟩ | ⟨c0, c1, c2, c3, c4⟩ | ⟨c0, c1, c2, c3, c4, c5⟩ | ⟨c0, c1, c2, c3, c4, c5, c6⟩ | ⟨c0, c1, c2, c3, c4, c5, c6, c7⟩ | ⟨c0, c1, c2, c3, c4, c5, c6, c7⟩
  case inr.inr.inr.inr.inr.inr.inr.inr =>
    have hf : ¬ Sb.form ⟨t0, t1, t2, t3⟩ := fun h => by
      have := HK.out h
      simp only [c0, c1, c2, c3, c4, c5, c6, c7] at this
      simp at this
    rw [decide_eq_false hf] at CT HV
    have HR : Hid (res = false) := by (show _ = _; rw [HV.out]; simp only [Bool.false_and, Bool.and_false])
    rw [HR.out]
    clear HV HK hf
    go_enter Tryd.func19, Tryd.ntmps19
    go_upto_region 1 with fail
    generalize w.alloc (.cells _ 27) = w0 at *
    obtain ⟨x0, x1, x2, x3, x4, x5, x6, x7, x8, x9, x10, x11, x12, x13⟩ := cells14 HS0.out.1
    go_wp2_with (go_at_call 47; refine (CT.out _).mono ?_; rintro r w1 ⟨rfl, hb1⟩; have HS1 := Lib.hid (HS0.out.next hb1 (by rfl) (by rfl) (by rfl) (by rfl)); clear hb1)
    go_ret
    exact ⟨rfl, HS1.out.2⟩
  all_goals
    have HR : Hid (res = false) := by (show _ = _; rw [HV.out]; simp only [*, Bool.not_true, Bool.false_and, Bool.and_false, Bool.not_false, Bool.true_and])
    rw [HR.out]
    clear HV HK
    go_enter Tryd.func19, Tryd.ntmps19
    go_upto_region 1 with fail
    generalize w.alloc (.cells _ 27) = w0 at *
    obtain ⟨x0, x1, x2, x3, x4, x5, x6, x7, x8, x9, x10, x11, x12, x13⟩ := cells14 HS0.out.1
    go_wp2
    go_ret
    exact ⟨rfl, HS0.out.2⟩
theorem refsbvalid_any (a0 a1 a2 a3 a4 t0 t1 t2 t3 h0 h1 h2 h3 : Int) (A : Option Addr) (B n c : Nat) (l : List Sb.L) (w : World) (hB : B ≤ w.heap.size) (hl : Hid (l.length = n)) (hb : Hid (Ls w B A l)) :
    Calls Tryd.prog 19 #[.agg #[.int .i64 a0, .int .i64 a1, .int .i64 a2, .int .i64 a3, .int .i64 a4, .int .i64 t0, .int .i64 t1, .int .i64 t2, .int .i64 t3, .int .i64 h0, .int .i64 h1, .int .i64 h2, .int .i64 h3, .slice A n c]] w
      fun r w' => r = .returned (.bool (decide (Sb.valid ⟨a0, a1, a2, a3, a4, ⟨t0, t1, t2, t3⟩, ⟨h0, h1, h2, h3⟩, l⟩))) ∧ Below w.heap.size w w' := by
  by_cases hk : Sb.form ⟨t0, t1, t2, t3⟩
  · rcases yes8 (decide (a0 < 1)) (decide (1099511627775 < a0)) (decide (a2 < 0)) (decide (4294967295 < a2)) (decide (a3 < 0)) (decide (281474976710655 < a3)) (decide (a4 < 0)) (decide (549755813888 < a4)) with c0 | ⟨c0, c1⟩ | ⟨c0, c1, c2⟩ | ⟨c0, c1, c2, c3⟩ | ⟨c0, c1, c2, c3, c4⟩ | ⟨c0, c1, c2, c3, c4, c5⟩ | ⟨c0, c1, c2, c3, c4, c5, c6⟩ | ⟨c0, c1, c2, c3, c4, c5, c6, c7⟩ | ⟨c0, c1, c2, c3, c4, c5, c6, c7⟩
    case inr.inr.inr.inr.inr.inr.inr.inr =>
      by_cases p2 : a1 = 2
      · subst p2
        exact refsbvalid_two a0 a2 a3 a4 t0 t1 t2 t3 h0 h1 h2 h3 A B n c l w hB hl hb hk c0 c1 c2 c3 c4 c5 c6 c7
      by_cases p3 : a1 = 3
      · subst p3
        exact refsbvalid_three a0 a2 a3 a4 t0 t1 t2 t3 h0 h1 h2 h3 A B n c l w hB hl hb hk c0 c1 c2 c3 c4 c5 c6 c7
      exact refsbvalid_other a0 a1 a2 a3 a4 t0 t1 t2 t3 h0 h1 h2 h3 A n c l w hl hk c0 c1 c2 c3 c4 c5 c6 c7 p2 p3
    all_goals
      refine refsbvalid_bad a0 a1 a2 a3 a4 t0 t1 t2 t3 h0 h1 h2 h3 A n c l w fun _ => ?_
      simp only [*, true_or, or_true]
  · exact refsbvalid_bad a0 a1 a2 a3 a4 t0 t1 t2 t3 h0 h1 h2 h3 A n c l w fun h => absurd h hk
end Go.Proofs.YtcjnhemlkahgoaaDoor
end
