/-
  SbHome: The walks of superblock.comesFromHome and superblock.returnsFrom.
  SbSuits: The walk of superblock.suitsPhase.
  SbValid: The walk of superblock.Valid.
-/
import Derived.Test.YtcjnhemlkahgoaaDoorSbOne
section
namespace Go.Proofs.YtcjnhemlkahgoaaDoor
open Go.RowKit
theorem home_ways (t0 t1 t2 t3 : Bool) : t0 = false ∨ (t0 = true ∧ t1 = false) ∨ (t0 = true ∧ t1 = true ∧ t2 = false) ∨ (t0 = true ∧ t1 = true ∧ t2 = true ∧ t3 = false) ∨ (t0 = true ∧ t1 = true ∧ t2 = true ∧ t3 = true) := five_ways t0 t1 t2 t3
theorem Ls.first {B : Nat} {w : World} {ad : Addr} {f : List Sb.L} (h : Ls w B (some ad) f) (hk : 0 < f.length) (a b c d : Int) (e : f.getD 0 Sb.L0 = ⟨a, b, c, d⟩) :
    w.cell? ad = some (.int .i64 a) ∧ w.cell? ⟨ad.block, ad.off + 1, none⟩ = some (.int .i64 b) ∧ w.cell? ⟨ad.block, ad.off + 2, none⟩ = some (.int .i64 c) ∧ w.cell? ⟨ad.block, ad.off + 3, none⟩ = some (.int .i64 d) := h.at 0 hk a b c d e
theorem Ls.second {B : Nat} {w : World} {ad : Addr} {f : List Sb.L} (h : Ls w B (some ad) f) (hk : 1 < f.length) (a b c d : Int) (e : f.getD 1 Sb.L0 = ⟨a, b, c, d⟩) :
    w.cell? ⟨ad.block, ad.off + 4, none⟩ = some (.int .i64 a) ∧ w.cell? ⟨ad.block, ad.off + 5, none⟩ = some (.int .i64 b) ∧ w.cell? ⟨ad.block, ad.off + 6, none⟩ = some (.int .i64 c) ∧ w.cell? ⟨ad.block, ad.off + 7, none⟩ = some (.int .i64 d) := h.at 1 hk a b c d e
set_option maxHeartbeats 2000000 in
theorem sbhome_any (a0 a1 a2 a3 a4 t0 t1 t2 t3 h0 h1 h2 h3 : Int) (A : Option Addr) (B n c : Nat) (l : List Sb.L) (w : World) (hB : B ≤ w.heap.size) (hs : SlIs A n c) (hl : Hid (l.length = n)) (hb : Hid (Ls w B A l)) :
    Calls Tryd.prog 79 #[.agg #[.int .i64 a0, .int .i64 a1, .int .i64 a2, .int .i64 a3, .int .i64 a4, .int .i64 t0, .int .i64 t1, .int .i64 t2, .int .i64 t3, .int .i64 h0, .int .i64 h1, .int .i64 h2, .int .i64 h3, .slice A n c]] w
      fun r w' => r = .returned (.bool (decide (Sb.home ⟨a0, a1, a2, a3, a4, ⟨t0, t1, t2, t3⟩, ⟨h0, h1, h2, h3⟩, l⟩))) ∧ Below w.heap.size w w' := by
  have HV : Hid (decide (Sb.home ⟨a0, a1, a2, a3, a4, ⟨t0, t1, t2, t3⟩, ⟨h0, h1, h2, h3⟩, l⟩) = (!(a2 == 0) && (decide (Sb.form ⟨h0, h1, h2, h3⟩) && (decide (0 < l.length) && (Sb.sameL (l.getD 0 Sb.L0) ⟨h0, h1, h2, h3⟩ && !(t0 == h0)))))) := by
    show _ = _
    have e1 : (!(a2 == 0)) = decide (a2 ≠ 0) := by by_cases h : a2 = 0 <;> simp [h]
    have e2 : (!(t0 == h0)) = decide (t0 ≠ h0) := by by_cases h : t0 = h0 <;> simp [h]
    rw [Sb.sameL_decide, e1, e2]
    simp only [← Bool.decide_and]
    rfl
  rw [hl.out] at HV
  generalize decide (Sb.home ⟨a0, a1, a2, a3, a4, ⟨t0, t1, t2, t3⟩, ⟨h0, h1, h2, h3⟩, l⟩) = res at *
  have CF := Lib.hid (fun W => sbform_any h0 h1 h2 h3 W)
  generalize decide (Sb.form ⟨h0, h1, h2, h3⟩) = k1 at *
  obtain ⟨e0, e1, e2, e3, HX⟩ : ∃ a0 a1 a2 a3, Hid (l.getD 0 Sb.L0 = ⟨a0, a1, a2, a3⟩) := ⟨_, _, _, _, rfl⟩
  rw [HX.out] at HV
  have q1 := fun W : World => lay_eq W e0 e1 e2 e3 h0 h1 h2 h3
  generalize Sb.sameL ⟨e0, e1, e2, e3⟩ ⟨h0, h1, h2, h3⟩ = k3 at *
  have HF : Hid (∀ ad W, Below w.heap.size w W → A = some ad → 0 < n → W.cell? ad = some (.int .i64 e0) ∧ W.cell? ⟨ad.block, ad.off + 1, none⟩ = some (.int .i64 e1) ∧ W.cell? ⟨ad.block, ad.off + 2, none⟩ = some (.int .i64 e2) ∧ W.cell? ⟨ad.block, ad.off + 3, none⟩ = some (.int .i64 e3)) := fun ad W hW e hn => by
    subst e
    exact (hb.out.below hW hB).first (by rw [hl.out]; exact hn) _ _ _ _ HX.out
  have HA : Hid (0 < n → ∃ ad, A = some ad) := fun hn => ls_some hb.out (k := 0) (by rw [hl.out]; exact hn)
  clear hl hb hB HX
  have HS0 := Lib.hid (sd_new w #[.int .i64 a0, .int .i64 a1, .int .i64 a2, .int .i64 a3, .int .i64 a4, .int .i64 t0, .int .i64 t1, .int .i64 t2, .int .i64 t3, .int .i64 h0, .int .i64 h1, .int .i64 h2, .int .i64 h3, .slice A n c] 27)
  have ways := home_ways (!(a2 == 0)) k1 (decide (0 < n)) k3
  rcases ways with k0 | ⟨k0, rfl⟩ | ⟨k0, rfl, k2⟩ | ⟨k0, rfl, k2, rfl⟩ | ⟨k0, rfl, k2, rfl⟩
  all_goals
    first
      | have HR : Hid (res = !(t0 == h0)) := by (show _ = _; rw [HV.out, k0, k2]; rfl)
      | have HR : Hid (res = false) := by (show _ = _; rw [HV.out, k0, k2]; rfl)
      | have HR : Hid (res = false) := by (show _ = _; rw [HV.out, k0]; rfl)
    clear HV
    have j0 : (a2 != 0) = !(a2 == 0) := rfl
    rw [k0] at j0
    have j5 : (t0 != h0) = !(t0 == h0) := rfl
    (try (first
      | (have p2 : 0 < n := of_decide_eq_true k2
         obtain ⟨ad, rfl⟩ := HA.out p2
         have d2 : decide ((0 : Int) < (n : Int)) = true := by simp; omega)
      | (have p2 : n = 0 := by have := of_decide_eq_false k2; omega
         subst p2)))
    clear k0
    generalize (t0 == h0) = k4 at *
    go_enter Tryd.func79, Tryd.ntmps79
    go_upto_region 1 with fail
    generalize w.alloc (.cells #[.int .i64 a0, .int .i64 a1, .int .i64 a2, .int .i64 a3, .int .i64 a4, .int .i64 t0, .int .i64 t1, .int .i64 t2, .int .i64 t3, .int .i64 h0, .int .i64 h1, .int .i64 h2, .int .i64 h3, .slice _ _ c] 27) = w0 at *
    obtain ⟨x0, x1, x2, x3, x4, x5, x6, x7, x8, x9, x10, x11, x12, x13⟩ := cells14 HS0.out.1
    refine wp_region_held_drew (S := (fun W => (W.heap[w.heap.size]? = some (.cells #[.int .i64 a0, .int .i64 a1, .int .i64 a2, .int .i64 a3, .int .i64 a4, .int .i64 t0, .int .i64 t1, .int .i64 t2, .int .i64 t3, .int .i64 h0, .int .i64 h1, .int .i64 h2, .int .i64 h3, .slice _ _ c] 27 (0, 0))) ∧ Below w.heap.size w W)) (by kernel_rfl) (⟨HS0.out.1, below_drawn HS0.out.2 1⟩) (fun hH => ?_)
    change wpAnyH _ _ _ _ _ 33 #[false, false, false, false, false, false, false, false, false, false, false, false, false, false, false, false, false, false, false, false, false, false, false, false, false, false, false, false, false, false, false, false, false] _ _
    refine held_take (i := 0) (v := ?_) (d := some 3) rfl rfl (by kernel_rfl) (by kernel_rfl) (by kernel_rfl) (fun _ _ _ h => h) hH ⟨?_, fun w hSw => ?_⟩ ?_
    rotate_left 1
    · rfl
    · (go_simp; all_goals with_reducible rfl)
    simp only [Act.put, List.setIfInBounds_toArray, List.set_cons_zero, List.set_cons_succ]
    refine held_take (i := 1) (v := ?_) (d := some 4) rfl rfl (by kernel_rfl) (by kernel_rfl) (by kernel_rfl) (fun _ _ _ h => h) hH ⟨?_, fun w hSw => ?_⟩ ?_
    rotate_left 1
    · rfl
    · obtain ⟨x0, x1, x2, x3, x4, x5, x6, x7, x8, x9, x10, x11, x12, x13⟩ := cells14 hSw.1
      (try obtain ⟨m0, m1, m2, m3⟩ := HF.out _ _ hSw.2 rfl p2)
      (go_simp; all_goals with_reducible rfl)
    simp only [Act.put, List.setIfInBounds_toArray, List.set_cons_zero, List.set_cons_succ]
    refine held_take (i := 2) (v := ?_) (d := some 5) rfl rfl (by kernel_rfl) (by kernel_rfl) (by kernel_rfl) (fun _ _ _ h => h) hH ⟨?_, fun w hSw => ?_⟩ ?_
    rotate_left 1
    · rfl
    · (go_simp; all_goals with_reducible rfl)
    simp only [Act.put, List.setIfInBounds_toArray, List.set_cons_zero, List.set_cons_succ]
    refine held_take (i := 3) (v := ?_) (d := some 6) rfl rfl (by kernel_rfl) (by kernel_rfl) (by kernel_rfl) (fun _ _ _ h => h) hH ⟨?_, fun w hSw => ?_⟩ ?_
    rotate_left 1
    · rfl
    · (go_simp; all_goals with_reducible rfl)
    simp only [Act.put, List.setIfInBounds_toArray, List.set_cons_zero, List.set_cons_succ]
    first
      | refine held_skip (i := 4) (d := some 7) rfl rfl (by kernel_rfl) (by kernel_rfl) (by kernel_rfl) (fun _ _ _ h => h) hH ?_ ?_
        · rfl
        simp only [Act.put, List.setIfInBounds_toArray, List.set_cons_zero, List.set_cons_succ]
      | refine held_take (i := 4) (v := ?_) (d := some 7) rfl rfl (by kernel_rfl) (by kernel_rfl) (by kernel_rfl) (fun _ _ _ h => h) hH ⟨?_, fun w hSw => ?_⟩ ?_
        rotate_left 1
        · rfl
        · (go_simp; all_goals with_reducible rfl)
        simp only [Act.put, List.setIfInBounds_toArray, List.set_cons_zero, List.set_cons_succ]
    first
      | refine held_skip (i := 5) (d := some 8) rfl rfl (by kernel_rfl) (by kernel_rfl) (by kernel_rfl) (fun _ _ _ h => h) hH ?_ ?_
        · rfl
        simp only [Act.put, List.setIfInBounds_toArray, List.set_cons_zero, List.set_cons_succ]
      | refine held_take (i := 5) (v := ?_) (d := some 8) rfl rfl (by kernel_rfl) (by kernel_rfl) (by kernel_rfl) (fun _ _ _ h => h) hH ⟨?_, fun w hSw => ?_⟩ ?_
        rotate_left 1
        · rfl
        · obtain ⟨x0, x1, x2, x3, x4, x5, x6, x7, x8, x9, x10, x11, x12, x13⟩ := cells14 hSw.1
          (try obtain ⟨m0, m1, m2, m3⟩ := HF.out _ _ hSw.2 rfl p2)
          (go_simp; all_goals with_reducible rfl)
        simp only [Act.put, List.setIfInBounds_toArray, List.set_cons_zero, List.set_cons_succ]
    first
      | refine held_skip (i := 6) (d := some 9) rfl rfl (by kernel_rfl) (by kernel_rfl) (by kernel_rfl) (fun _ _ _ h => h) hH ?_ ?_
        · rfl
        simp only [Act.put, List.setIfInBounds_toArray, List.set_cons_zero, List.set_cons_succ]
      | refine held_step (i := 6) rfl (by kernel_rfl) ?_ (fun K hK => ?_)
        · rfl
        clear hH
        go_simp
        refine (CF.out _).mono ?_
        rintro r w1 ⟨rfl, hb1⟩
        have HS1 := Lib.hid (HS0.out.next hb1 (by rfl) (by rfl) (by rfl) (by rfl))
        have hH := HS1.out
        refine hK _ _ hH ?_
        clear hK K
        simp only [List.setIfInBounds_toArray, List.set_cons_zero, List.set_cons_succ]
    refine held_take (i := 7) (v := ?_) (d := some 10) rfl rfl (by kernel_rfl) (by kernel_rfl) (by kernel_rfl) (fun _ _ _ h => h) hH ⟨?_, fun w hSw => ?_⟩ ?_
    rotate_left 1
    · rfl
    · (go_simp; all_goals with_reducible rfl)
    simp only [Act.put, List.setIfInBounds_toArray, List.set_cons_zero, List.set_cons_succ]
    refine held_take (i := 8) (v := ?_) (d := some 11) rfl rfl (by kernel_rfl) (by kernel_rfl) (by kernel_rfl) (fun _ _ _ h => h) hH ⟨?_, fun w hSw => ?_⟩ ?_
    rotate_left 1
    · rfl
    · (go_simp; all_goals with_reducible rfl)
    simp only [Act.put, List.setIfInBounds_toArray, List.set_cons_zero, List.set_cons_succ]
    first
      | refine held_skip (i := 9) (d := some 12) rfl rfl (by kernel_rfl) (by kernel_rfl) (by kernel_rfl) (fun _ _ _ h => h) hH ?_ ?_
        · rfl
        simp only [Act.put, List.setIfInBounds_toArray, List.set_cons_zero, List.set_cons_succ]
      | refine held_take (i := 9) (v := ?_) (d := some 12) rfl rfl (by kernel_rfl) (by kernel_rfl) (by kernel_rfl) (fun _ _ _ h => h) hH ⟨?_, fun w hSw => ?_⟩ ?_
        rotate_left 1
        · rfl
        · (go_simp; all_goals with_reducible rfl)
        simp only [Act.put, List.setIfInBounds_toArray, List.set_cons_zero, List.set_cons_succ]
    first
      | refine held_skip (i := 10) (d := some 13) rfl rfl (by kernel_rfl) (by kernel_rfl) (by kernel_rfl) (fun _ _ _ h => h) hH ?_ ?_
        · rfl
        simp only [Act.put, List.setIfInBounds_toArray, List.set_cons_zero, List.set_cons_succ]
      | refine held_take (i := 10) (v := ?_) (d := some 13) rfl rfl (by kernel_rfl) (by kernel_rfl) (by kernel_rfl) (fun _ _ _ h => h) hH ⟨?_, fun w hSw => ?_⟩ ?_
        rotate_left 1
        · rfl
        · obtain ⟨x0, x1, x2, x3, x4, x5, x6, x7, x8, x9, x10, x11, x12, x13⟩ := cells14 hSw.1
          (try obtain ⟨m0, m1, m2, m3⟩ := HF.out _ _ hSw.2 rfl p2)
          (go_simp; all_goals with_reducible rfl)
        simp only [Act.put, List.setIfInBounds_toArray, List.set_cons_zero, List.set_cons_succ]
    first
      | refine held_skip (i := 11) (d := some 14) rfl rfl (by kernel_rfl) (by kernel_rfl) (by kernel_rfl) (fun _ _ _ h => h) hH ?_ ?_
        · rfl
        simp only [Act.put, List.setIfInBounds_toArray, List.set_cons_zero, List.set_cons_succ]
      | refine held_take (i := 11) (v := ?_) (d := some 14) rfl rfl (by kernel_rfl) (by kernel_rfl) (by kernel_rfl) (fun _ _ _ h => h) hH ⟨?_, fun w hSw => ?_⟩ ?_
        rotate_left 1
        · rfl
        · (go_simp; all_goals with_reducible rfl)
        simp only [Act.put, List.setIfInBounds_toArray, List.set_cons_zero, List.set_cons_succ]
    first
      | refine held_skip (i := 12) (d := some 15) rfl rfl (by kernel_rfl) (by kernel_rfl) (by kernel_rfl) (fun _ _ _ h => h) hH ?_ ?_
        · rfl
        simp only [Act.put, List.setIfInBounds_toArray, List.set_cons_zero, List.set_cons_succ]
      | refine held_take (i := 12) (v := ?_) (d := some 15) rfl rfl (by kernel_rfl) (by kernel_rfl) (by kernel_rfl) (fun _ _ _ h => h) hH ⟨?_, fun w hSw => ?_⟩ ?_
        rotate_left 1
        · rfl
        · (go_simp; all_goals with_reducible rfl)
        simp only [Act.put, List.setIfInBounds_toArray, List.set_cons_zero, List.set_cons_succ]
    refine held_take (i := 13) (v := ?_) (d := some 16) rfl rfl (by kernel_rfl) (by kernel_rfl) (by kernel_rfl) (fun _ _ _ h => h) hH ⟨?_, fun w hSw => ?_⟩ ?_
    rotate_left 1
    · rfl
    · (go_simp; all_goals with_reducible rfl)
    simp only [Act.put, List.setIfInBounds_toArray, List.set_cons_zero, List.set_cons_succ]
    refine held_take (i := 14) (v := ?_) (d := some 17) rfl rfl (by kernel_rfl) (by kernel_rfl) (by kernel_rfl) (fun _ _ _ h => h) hH ⟨?_, fun w hSw => ?_⟩ ?_
    rotate_left 1
    · rfl
    · (go_simp; all_goals with_reducible rfl)
    simp only [Act.put, List.setIfInBounds_toArray, List.set_cons_zero, List.set_cons_succ]
    first
      | refine held_skip (i := 15) (d := some 18) rfl rfl (by kernel_rfl) (by kernel_rfl) (by kernel_rfl) (fun _ _ _ h => h) hH ?_ ?_
        · rfl
        simp only [Act.put, List.setIfInBounds_toArray, List.set_cons_zero, List.set_cons_succ]
      | refine held_take (i := 15) (v := ?_) (d := some 18) rfl rfl (by kernel_rfl) (by kernel_rfl) (by kernel_rfl) (fun _ _ _ h => h) hH ⟨?_, fun w hSw => ?_⟩ ?_
        rotate_left 1
        · rfl
        · (go_simp; all_goals with_reducible rfl)
        simp only [Act.put, List.setIfInBounds_toArray, List.set_cons_zero, List.set_cons_succ]
    first
      | refine held_skip (i := 16) (d := some 19) rfl rfl (by kernel_rfl) (by kernel_rfl) (by kernel_rfl) (fun _ _ _ h => h) hH ?_ ?_
        · rfl
        simp only [Act.put, List.setIfInBounds_toArray, List.set_cons_zero, List.set_cons_succ]
      | refine held_take (i := 16) (v := ?_) (d := some 19) rfl rfl (by kernel_rfl) (by kernel_rfl) (by kernel_rfl) (fun _ _ _ h => h) hH ⟨?_, fun w hSw => ?_⟩ ?_
        rotate_left 1
        · rfl
        · obtain ⟨x0, x1, x2, x3, x4, x5, x6, x7, x8, x9, x10, x11, x12, x13⟩ := cells14 hSw.1
          (try obtain ⟨m0, m1, m2, m3⟩ := HF.out _ _ hSw.2 rfl p2)
          (go_simp; all_goals with_reducible rfl)
        simp only [Act.put, List.setIfInBounds_toArray, List.set_cons_zero, List.set_cons_succ]
    first
      | refine held_skip (i := 17) (d := some 20) rfl rfl (by kernel_rfl) (by kernel_rfl) (by kernel_rfl) (fun _ _ _ h => h) hH ?_ ?_
        · rfl
        simp only [Act.put, List.setIfInBounds_toArray, List.set_cons_zero, List.set_cons_succ]
      | refine held_take (i := 17) (v := ?_) (d := some 20) rfl rfl (by kernel_rfl) (by kernel_rfl) (by kernel_rfl) (fun _ _ _ h => h) hH ⟨?_, fun w hSw => ?_⟩ ?_
        rotate_left 1
        · rfl
        · obtain ⟨x0, x1, x2, x3, x4, x5, x6, x7, x8, x9, x10, x11, x12, x13⟩ := cells14 hSw.1
          (try obtain ⟨m0, m1, m2, m3⟩ := HF.out _ _ hSw.2 rfl p2)
          (go_simp; all_goals with_reducible rfl)
        simp only [Act.put, List.setIfInBounds_toArray, List.set_cons_zero, List.set_cons_succ]
    first
      | refine held_skip (i := 18) (d := some 21) rfl rfl (by kernel_rfl) (by kernel_rfl) (by kernel_rfl) (fun _ _ _ h => h) hH ?_ ?_
        · rfl
        simp only [Act.put, List.setIfInBounds_toArray, List.set_cons_zero, List.set_cons_succ]
      | refine held_take (i := 18) (v := ?_) (d := some 21) rfl rfl (by kernel_rfl) (by kernel_rfl) (by kernel_rfl) (fun _ _ _ h => h) hH ⟨?_, fun w hSw => ?_⟩ ?_
        rotate_left 1
        · rfl
        · obtain ⟨x0, x1, x2, x3, x4, x5, x6, x7, x8, x9, x10, x11, x12, x13⟩ := cells14 hSw.1
          (try obtain ⟨m0, m1, m2, m3⟩ := HF.out _ _ hSw.2 rfl p2)
          (go_simp; all_goals with_reducible rfl)
        simp only [Act.put, List.setIfInBounds_toArray, List.set_cons_zero, List.set_cons_succ]
    first
      | refine held_skip (i := 19) (d := some 22) rfl rfl (by kernel_rfl) (by kernel_rfl) (by kernel_rfl) (fun _ _ _ h => h) hH ?_ ?_
        · rfl
        simp only [Act.put, List.setIfInBounds_toArray, List.set_cons_zero, List.set_cons_succ]
      | refine held_take (i := 19) (v := ?_) (d := some 22) rfl rfl (by kernel_rfl) (by kernel_rfl) (by kernel_rfl) (fun _ _ _ h => h) hH ⟨?_, fun w hSw => ?_⟩ ?_
        rotate_left 1
        · rfl
        · (go_simp; all_goals with_reducible rfl)
        simp only [Act.put, List.setIfInBounds_toArray, List.set_cons_zero, List.set_cons_succ]
    first
      | refine held_skip (i := 20) (d := some 23) rfl rfl (by kernel_rfl) (by kernel_rfl) (by kernel_rfl) (fun _ _ _ h => h) hH ?_ ?_
        · rfl
        simp only [Act.put, List.setIfInBounds_toArray, List.set_cons_zero, List.set_cons_succ]
      | refine held_take (i := 20) (v := ?_) (d := some 23) rfl rfl (by kernel_rfl) (by kernel_rfl) (by kernel_rfl) (fun _ _ _ h => h) hH ⟨?_, fun w hSw => ?_⟩ ?_
        rotate_left 1
        · rfl
        · obtain ⟨x0, x1, x2, x3, x4, x5, x6, x7, x8, x9, x10, x11, x12, x13⟩ := cells14 hSw.1
          (try obtain ⟨m0, m1, m2, m3⟩ := HF.out _ _ hSw.2 rfl p2)
          (go_simp; all_goals with_reducible rfl)
        simp only [Act.put, List.setIfInBounds_toArray, List.set_cons_zero, List.set_cons_succ]
    first
      | refine held_skip (i := 21) (d := some 24) rfl rfl (by kernel_rfl) (by kernel_rfl) (by kernel_rfl) (fun _ _ _ h => h) hH ?_ ?_
        · rfl
        simp only [Act.put, List.setIfInBounds_toArray, List.set_cons_zero, List.set_cons_succ]
      | refine held_take (i := 21) (v := ?_) (d := some 24) rfl rfl (by kernel_rfl) (by kernel_rfl) (by kernel_rfl) (fun _ _ _ h => h) hH ⟨?_, fun w hSw => ?_⟩ ?_
        rotate_left 1
        · rfl
        · (go_simp; all_goals with_reducible rfl)
        simp only [Act.put, List.setIfInBounds_toArray, List.set_cons_zero, List.set_cons_succ]
    refine held_take (i := 22) (v := ?_) (d := some 25) rfl rfl (by kernel_rfl) (by kernel_rfl) (by kernel_rfl) (fun _ _ _ h => h) hH ⟨?_, fun w hSw => ?_⟩ ?_
    rotate_left 1
    · rfl
    · (go_simp; all_goals with_reducible rfl)
    simp only [Act.put, List.setIfInBounds_toArray, List.set_cons_zero, List.set_cons_succ]
    refine held_take (i := 23) (v := ?_) (d := some 26) rfl rfl (by kernel_rfl) (by kernel_rfl) (by kernel_rfl) (fun _ _ _ h => h) hH ⟨?_, fun w hSw => ?_⟩ ?_
    rotate_left 1
    · rfl
    · (go_simp; all_goals with_reducible rfl)
    simp only [Act.put, List.setIfInBounds_toArray, List.set_cons_zero, List.set_cons_succ]
    first
      | refine held_skip (i := 24) (d := some 27) rfl rfl (by kernel_rfl) (by kernel_rfl) (by kernel_rfl) (fun _ _ _ h => h) hH ?_ ?_
        · rfl
        simp only [Act.put, List.setIfInBounds_toArray, List.set_cons_zero, List.set_cons_succ]
      | refine held_take (i := 24) (v := ?_) (d := some 27) rfl rfl (by kernel_rfl) (by kernel_rfl) (by kernel_rfl) (fun _ _ _ h => h) hH ⟨?_, fun w hSw => ?_⟩ ?_
        rotate_left 1
        · rfl
        · (go_simp; all_goals with_reducible rfl)
        simp only [Act.put, List.setIfInBounds_toArray, List.set_cons_zero, List.set_cons_succ]
    first
      | refine held_skip (i := 25) (d := some 28) rfl rfl (by kernel_rfl) (by kernel_rfl) (by kernel_rfl) (fun _ _ _ h => h) hH ?_ ?_
        · rfl
        simp only [Act.put, List.setIfInBounds_toArray, List.set_cons_zero, List.set_cons_succ]
      | refine held_take (i := 25) (v := ?_) (d := some 28) rfl rfl (by kernel_rfl) (by kernel_rfl) (by kernel_rfl) (fun _ _ _ h => h) hH ⟨?_, fun w hSw => ?_⟩ ?_
        rotate_left 1
        · rfl
        · (go_simp; all_goals with_reducible rfl)
        simp only [Act.put, List.setIfInBounds_toArray, List.set_cons_zero, List.set_cons_succ]
    first
      | refine held_skip (i := 26) (d := some 29) rfl rfl (by kernel_rfl) (by kernel_rfl) (by kernel_rfl) (fun _ _ _ h => h) hH ?_ ?_
        · rfl
        simp only [Act.put, List.setIfInBounds_toArray, List.set_cons_zero, List.set_cons_succ]
      | refine held_take (i := 26) (v := ?_) (d := some 29) rfl rfl (by kernel_rfl) (by kernel_rfl) (by kernel_rfl) (fun _ _ _ h => h) hH ⟨?_, fun w hSw => ?_⟩ ?_
        rotate_left 1
        · rfl
        · obtain ⟨x0, x1, x2, x3, x4, x5, x6, x7, x8, x9, x10, x11, x12, x13⟩ := cells14 hSw.1
          (try obtain ⟨m0, m1, m2, m3⟩ := HF.out _ _ hSw.2 rfl p2)
          (go_simp; all_goals with_reducible rfl)
        simp only [Act.put, List.setIfInBounds_toArray, List.set_cons_zero, List.set_cons_succ]
    first
      | refine held_skip (i := 27) (d := some 30) rfl rfl (by kernel_rfl) (by kernel_rfl) (by kernel_rfl) (fun _ _ _ h => h) hH ?_ ?_
        · rfl
        simp only [Act.put, List.setIfInBounds_toArray, List.set_cons_zero, List.set_cons_succ]
      | refine held_take (i := 27) (v := ?_) (d := some 30) rfl rfl (by kernel_rfl) (by kernel_rfl) (by kernel_rfl) (fun _ _ _ h => h) hH ⟨?_, fun w hSw => ?_⟩ ?_
        rotate_left 1
        · rfl
        · (go_simp; all_goals with_reducible rfl)
        simp only [Act.put, List.setIfInBounds_toArray, List.set_cons_zero, List.set_cons_succ]
    first
      | refine held_skip (i := 28) (d := some 31) rfl rfl (by kernel_rfl) (by kernel_rfl) (by kernel_rfl) (fun _ _ _ h => h) hH ?_ ?_
        · rfl
        simp only [Act.put, List.setIfInBounds_toArray, List.set_cons_zero, List.set_cons_succ]
      | refine held_take (i := 28) (v := ?_) (d := some 31) rfl rfl (by kernel_rfl) (by kernel_rfl) (by kernel_rfl) (fun _ _ _ h => h) hH ⟨?_, fun w hSw => ?_⟩ ?_
        rotate_left 1
        · rfl
        · (go_simp; all_goals with_reducible rfl)
        simp only [Act.put, List.setIfInBounds_toArray, List.set_cons_zero, List.set_cons_succ]
    first
      | refine held_skip (i := 29) (d := some 32) rfl rfl (by kernel_rfl) (by kernel_rfl) (by kernel_rfl) (fun _ _ _ h => h) hH ?_ ?_
        · rfl
        simp only [Act.put, List.setIfInBounds_toArray, List.set_cons_zero, List.set_cons_succ]
      | refine held_take (i := 29) (v := ?_) (d := some 32) rfl rfl (by kernel_rfl) (by kernel_rfl) (by kernel_rfl) (fun _ _ _ h => h) hH ⟨?_, fun w hSw => ?_⟩ ?_
        rotate_left 1
        · rfl
        · obtain ⟨x0, x1, x2, x3, x4, x5, x6, x7, x8, x9, x10, x11, x12, x13⟩ := cells14 hSw.1
          (try obtain ⟨m0, m1, m2, m3⟩ := HF.out _ _ hSw.2 rfl p2)
          (go_simp; all_goals with_reducible rfl)
        simp only [Act.put, List.setIfInBounds_toArray, List.set_cons_zero, List.set_cons_succ]
    first
      | refine held_skip (i := 30) (d := some 33) rfl rfl (by kernel_rfl) (by kernel_rfl) (by kernel_rfl) (fun _ _ _ h => h) hH ?_ ?_
        · rfl
        simp only [Act.put, List.setIfInBounds_toArray, List.set_cons_zero, List.set_cons_succ]
      | refine held_take (i := 30) (v := ?_) (d := some 33) rfl rfl (by kernel_rfl) (by kernel_rfl) (by kernel_rfl) (fun _ _ _ h => h) hH ⟨?_, fun w hSw => ?_⟩ ?_
        rotate_left 1
        · rfl
        · (go_simp; all_goals with_reducible rfl)
        simp only [Act.put, List.setIfInBounds_toArray, List.set_cons_zero, List.set_cons_succ]
    refine held_take (i := 31) (v := ?_) (d := some 34) rfl rfl (by kernel_rfl) (by kernel_rfl) (by kernel_rfl) (fun _ _ _ h => h) hH ⟨?_, fun w hSw => ?_⟩ ?_
    rotate_left 1
    · rfl
    · (go_simp; all_goals with_reducible rfl)
    simp only [Act.put, List.setIfInBounds_toArray, List.set_cons_zero, List.set_cons_succ]
    refine held_take (i := 32) (v := ?_) (d := some 2) rfl rfl (by kernel_rfl) (by kernel_rfl) (by kernel_rfl) (fun _ _ _ h => h) hH ⟨?_, fun w hSw => ?_⟩ ?_
    rotate_left 1
    · rfl
    · (go_simp; all_goals with_reducible rfl)
    simp only [Act.put, List.setIfInBounds_toArray, List.set_cons_zero, List.set_cons_succ]
    refine wpAnyH_done (by kernel_rfl) ?_ _
    (try go_wp2_with fail)
    go_ret
    first
      | exact ⟨ret_bool HR.out.symm, HS1.out.2⟩
      | exact ⟨ret_bool HR.out.symm, below_drawn HS0.out.2 _⟩
end Go.Proofs.YtcjnhemlkahgoaaDoor
end
section
namespace Go.Proofs.YtcjnhemlkahgoaaDoor
open Go.RowKit
theorem suits_one {s : Sb.S} (h : s.phase = 1) : decide (Sb.suits s) = (Sb.sameL s.h Sb.L0 && decide (s.f.length = 0)) := by
  rw [Sb.sameL_decide, ← Bool.decide_and]
  refine decide_eq_decide.2 ⟨fun k => ?_, fun k => .inl ⟨h, k.1, k.2⟩⟩
  rcases k with ⟨_, k1, k2⟩ | ⟨k, _⟩ | ⟨k, _⟩
  · exact ⟨k1, k2⟩
  · omega
  · omega
theorem suits_two {s : Sb.S} (h : s.phase = 2) : decide (Sb.suits s) = (decide (Sb.home s) && decide (s.f.length = 1)) := by
  rw [← Bool.decide_and]
  refine decide_eq_decide.2 ⟨fun k => ?_, fun k => .inr (.inl ⟨h, k.1, k.2⟩)⟩
  rcases k with ⟨k, _⟩ | ⟨_, k1, k2⟩ | ⟨k, _⟩
  · omega
  · exact ⟨k1, k2⟩
  · omega
theorem suits_three {s : Sb.S} (h : s.phase = 3) : decide (Sb.suits s) = (decide (Sb.home s) && (decide (s.f.length = 2) && decide (Sb.back s (s.f.getD 1 Sb.L0)))) := by
  rw [← Bool.decide_and, ← Bool.decide_and]
  refine decide_eq_decide.2 ⟨fun k => ?_, fun k => .inr (.inr ⟨h, k.1, k.2⟩)⟩
  rcases k with ⟨k, _⟩ | ⟨k, _⟩ | ⟨_, k1, k2⟩
  · omega
  · omega
  · exact ⟨k1, k2⟩
theorem suits_none {s : Sb.S} (h1 : s.phase ≠ 1) (h2 : s.phase ≠ 2) (h3 : s.phase ≠ 3) : decide (Sb.suits s) = false := by
  refine decide_eq_false fun k => ?_
  rcases k with ⟨k, _⟩ | ⟨k, _⟩ | ⟨k, _⟩
  · exact h1 k
  · exact h2 k
  · exact h3 k
theorem len_is {n k : Nat} (h : n ≠ k) : ((n : Int) == (k : Int)) = false := by rw [beq_eq_false_iff_ne]; omega
theorem beq_no {a b : Int} (h : a ≠ b) : (a == b) = false := by rw [beq_eq_false_iff_ne]; exact h
set_option maxHeartbeats 4000000 in
theorem sbsuits_any (a0 a1 a2 a3 a4 t0 t1 t2 t3 h0 h1 h2 h3 : Int) (A : Option Addr) (B n c : Nat) (l : List Sb.L) (w : World) (hB : B ≤ w.heap.size) (hs : SlIs A n c) (hl : Hid (l.length = n)) (hb : Hid (Ls w B A l)) :
    Calls Tryd.prog 61 #[.agg #[.int .i64 a0, .int .i64 a1, .int .i64 a2, .int .i64 a3, .int .i64 a4, .int .i64 t0, .int .i64 t1, .int .i64 t2, .int .i64 t3, .int .i64 h0, .int .i64 h1, .int .i64 h2, .int .i64 h3, .slice A n c]] w
      fun r w' => r = .returned (.bool (decide (Sb.suits ⟨a0, a1, a2, a3, a4, ⟨t0, t1, t2, t3⟩, ⟨h0, h1, h2, h3⟩, l⟩))) ∧ Below w.heap.size w w' := by
  have CH : Hid (∀ W, Below w.heap.size w W → Calls Tryd.prog 79 #[.agg #[.int .i64 a0, .int .i64 a1, .int .i64 a2, .int .i64 a3, .int .i64 a4, .int .i64 t0, .int .i64 t1, .int .i64 t2, .int .i64 t3, .int .i64 h0, .int .i64 h1, .int .i64 h2, .int .i64 h3, .slice A n c]] W fun r w' => r = .returned (.bool (decide (Sb.home ⟨a0, a1, a2, a3, a4, ⟨t0, t1, t2, t3⟩, ⟨h0, h1, h2, h3⟩, l⟩))) ∧ Below W.heap.size W w') := fun W hW =>
    sbhome_any a0 a1 a2 a3 a4 t0 t1 t2 t3 h0 h1 h2 h3 A B n c l W (Nat.le_trans hB hW.size) hs hl (hb.out.below hW hB)
  have HV1 := Lib.hid (@suits_one ⟨a0, a1, a2, a3, a4, ⟨t0, t1, t2, t3⟩, ⟨h0, h1, h2, h3⟩, l⟩)
  have HV2 := Lib.hid (@suits_two ⟨a0, a1, a2, a3, a4, ⟨t0, t1, t2, t3⟩, ⟨h0, h1, h2, h3⟩, l⟩)
  have HV3 := Lib.hid (@suits_three ⟨a0, a1, a2, a3, a4, ⟨t0, t1, t2, t3⟩, ⟨h0, h1, h2, h3⟩, l⟩)
  have HV4 := Lib.hid (@suits_none ⟨a0, a1, a2, a3, a4, ⟨t0, t1, t2, t3⟩, ⟨h0, h1, h2, h3⟩, l⟩)
  simp only [hl.out] at HV1 HV2 HV3 HV4
  obtain ⟨e0, e1, e2, e3, HX⟩ : ∃ a0 a1 a2 a3, Hid (l.getD 1 Sb.L0 = ⟨a0, a1, a2, a3⟩) := ⟨_, _, _, _, rfl⟩
  rw [HX.out] at HV3
  have CB := Lib.hid (fun W => sbback_any a0 a1 a2 a3 a4 t0 t1 t2 t3 h0 h1 h2 h3 e0 e1 e2 e3 A n c l W)
  generalize decide (Sb.back ⟨a0, a1, a2, a3, a4, ⟨t0, t1, t2, t3⟩, ⟨h0, h1, h2, h3⟩, l⟩ ⟨e0, e1, e2, e3⟩) = k3 at *
  generalize decide (Sb.home ⟨a0, a1, a2, a3, a4, ⟨t0, t1, t2, t3⟩, ⟨h0, h1, h2, h3⟩, l⟩) = k1 at *
  generalize decide (Sb.suits ⟨a0, a1, a2, a3, a4, ⟨t0, t1, t2, t3⟩, ⟨h0, h1, h2, h3⟩, l⟩) = res at *
  have q1 : ∀ W : World, (Op.equalIn 10000 24 (.agg #[.int .i64 h0, .int .i64 h1, .int .i64 h2, .int .i64 h3]) (.agg #[.int .i64 0, .int .i64 0, .int .i64 0, .int .i64 0])).run Tryd.prog W = .ok (Sb.sameL ⟨h0, h1, h2, h3⟩ Sb.L0) W := fun W : World => lay_eq W h0 h1 h2 h3 0 0 0 0
  generalize Sb.sameL ⟨h0, h1, h2, h3⟩ Sb.L0 = k0 at *
  have HF : Hid (∀ ad W, Below w.heap.size w W → A = some ad → 1 < n → W.cell? ⟨ad.block, ad.off + 4, none⟩ = some (.int .i64 e0) ∧ W.cell? ⟨ad.block, ad.off + 5, none⟩ = some (.int .i64 e1) ∧ W.cell? ⟨ad.block, ad.off + 6, none⟩ = some (.int .i64 e2) ∧ W.cell? ⟨ad.block, ad.off + 7, none⟩ = some (.int .i64 e3)) := fun ad W hW e hn => by
    subst e
    exact (hb.out.below hW hB).second (by rw [hl.out]; exact hn) _ _ _ _ HX.out
  have HA : Hid (1 < n → ∃ ad, A = some ad) := fun hn => ls_some hb.out (k := 1) (by rw [hl.out]; exact hn)
  clear hl hb hB HX
  have HS0 := Lib.hid (sd_new w #[.int .i64 a0, .int .i64 a1, .int .i64 a2, .int .i64 a3, .int .i64 a4, .int .i64 t0, .int .i64 t1, .int .i64 t2, .int .i64 t3, .int .i64 h0, .int .i64 h1, .int .i64 h2, .int .i64 h3, .slice A n c] 27)
  by_cases p1 : a1 = 1
  · subst p1
    have HR : Hid (res = (k0 && decide (n = 0))) := HV1.out rfl
    clear HV1 HV2 HV3 HV4
    by_cases p : n = 0
    · subst p
      rw [decide_eq_true rfl, Bool.and_true] at HR
      rw [HR.out]
      cases k0
      all_goals
        go_enter Tryd.func61, Tryd.ntmps61
        go_upto_region 1 with fail
        generalize w.alloc (.cells _ 27) = w0 at *
        obtain ⟨x0, x1, x2, x3, x4, x5, x6, x7, x8, x9, x10, x11, x12, x13⟩ := cells14 HS0.out.1
        go_wp2
        go_ret
        exact ⟨rfl, HS0.out.2⟩
    · rw [decide_eq_false p, Bool.and_false] at HR
      rw [HR.out]
      have d0 : ((n : Int) == 0) = false := len_is (k := 0) p
      cases k0
      all_goals
        go_enter Tryd.func61, Tryd.ntmps61
        go_upto_region 1 with fail
        generalize w.alloc (.cells _ 27) = w0 at *
        obtain ⟨x0, x1, x2, x3, x4, x5, x6, x7, x8, x9, x10, x11, x12, x13⟩ := cells14 HS0.out.1
        go_wp2
        go_ret
        exact ⟨rfl, HS0.out.2⟩
  by_cases p2 : a1 = 2
  · subst p2
    have HR : Hid (res = (k1 && decide (n = 1))) := HV2.out rfl
    clear HV1 HV2 HV3 HV4
    by_cases p : n = 1
    · subst p
      rw [decide_eq_true rfl, Bool.and_true] at HR
      rw [HR.out]
      cases k1
      all_goals
        go_enter Tryd.func61, Tryd.ntmps61
        go_upto_region 1 with fail
        generalize w.alloc (.cells _ 27) = w0 at *
        obtain ⟨x0, x1, x2, x3, x4, x5, x6, x7, x8, x9, x10, x11, x12, x13⟩ := cells14 HS0.out.1
        go_wp2_with (go_at_call 79; refine (CH.out _ HS0.out.2).mono ?_; rintro r w1 ⟨rfl, hb1⟩; have HS1 := Lib.hid (HS0.out.next hb1 (by rfl) (by rfl) (by rfl) (by rfl)); clear x0 x1 x2 x3 x4 x5 x6 x7 x8 x9 x10 x11 x12 x13 hb1; obtain ⟨x0, x1, x2, x3, x4, x5, x6, x7, x8, x9, x10, x11, x12, x13⟩ := cells14 HS1.out.1)
        go_ret
        exact ⟨rfl, HS1.out.2⟩
    · rw [decide_eq_false p, Bool.and_false] at HR
      rw [HR.out]
      have d0 : ((n : Int) == 1) = false := len_is (k := 1) p
      cases k1
      all_goals
        go_enter Tryd.func61, Tryd.ntmps61
        go_upto_region 1 with fail
        generalize w.alloc (.cells _ 27) = w0 at *
        obtain ⟨x0, x1, x2, x3, x4, x5, x6, x7, x8, x9, x10, x11, x12, x13⟩ := cells14 HS0.out.1
        go_wp2_with (go_at_call 79; refine (CH.out _ HS0.out.2).mono ?_; rintro r w1 ⟨rfl, hb1⟩; have HS1 := Lib.hid (HS0.out.next hb1 (by rfl) (by rfl) (by rfl) (by rfl)); clear x0 x1 x2 x3 x4 x5 x6 x7 x8 x9 x10 x11 x12 x13 hb1; obtain ⟨x0, x1, x2, x3, x4, x5, x6, x7, x8, x9, x10, x11, x12, x13⟩ := cells14 HS1.out.1)
        go_ret
        exact ⟨rfl, HS1.out.2⟩
  by_cases p3 : a1 = 3
  · subst p3
    have HR : Hid (res = (k1 && (decide (n = 2) && k3))) := HV3.out rfl
    clear HV1 HV2 HV3 HV4
    have ways : (k1 = false ∧ Hid (res = false)) ∨ (k1 = true ∧ n ≠ 2 ∧ Hid (res = false)) ∨ (k1 = true ∧ n = 2 ∧ Hid (res = k3)) := by
      cases k1 with
      | false => exact .inl ⟨rfl, HR.out⟩
      | true =>
        by_cases p : n = 2
        · exact .inr (.inr ⟨rfl, p, by (show _ = _); rw [HR.out, decide_eq_true p]; rfl⟩)
        · exact .inr (.inl ⟨rfl, p, by (show _ = _); rw [HR.out, decide_eq_false p]; rfl⟩)
    clear HR
    rcases ways with ⟨rfl, HR⟩ | ⟨rfl, p, HR⟩ | ⟨rfl, p, HR⟩
    all_goals
      rw [HR.out]
      (try first
        | (have d0 : ((n : Int) == 2) = false := len_is (k := 2) p)
        | (subst p; obtain ⟨ad, rfl⟩ := HA.out (by decide)))
      go_enter Tryd.func61, Tryd.ntmps61
      go_upto_region 1 with fail
      generalize w.alloc (.cells _ 27) = w0 at *
      obtain ⟨x0, x1, x2, x3, x4, x5, x6, x7, x8, x9, x10, x11, x12, x13⟩ := cells14 HS0.out.1
      go_upto_region 7 with fail
      refine wp_region_held_drew (S := (fun W => (W.heap[w.heap.size]? = some (.cells #[.int .i64 a0, .int .i64 3, .int .i64 a2, .int .i64 a3, .int .i64 a4, .int .i64 t0, .int .i64 t1, .int .i64 t2, .int .i64 t3, .int .i64 h0, .int .i64 h1, .int .i64 h2, .int .i64 h3, .slice _ _ c] 27 (0, 0))) ∧ Below w.heap.size w W)) (by kernel_rfl) (⟨HS0.out.1, below_drawn HS0.out.2 1⟩) (fun hH => ?_)
      change wpAnyH _ _ _ _ _ 17 #[false, false, false, false, false, false, false, false, false, false, false, false, false, false, false, false, false] _ _
      refine held_take (i := 0) (v := ?_) (d := some 29) rfl rfl (by kernel_rfl) (by kernel_rfl) (by kernel_rfl) (fun _ _ _ h => h) hH ⟨?_, fun w hSw => ?_⟩ ?_
      rotate_left 1
      · rfl
      · obtain ⟨x0, x1, x2, x3, x4, x5, x6, x7, x8, x9, x10, x11, x12, x13⟩ := cells14 hSw.1
        (try obtain ⟨m0, m1, m2, m3⟩ := HF.out _ _ hSw.2 rfl (by decide))
        (go_simp; all_goals with_reducible rfl)
      simp only [Act.put, List.setIfInBounds_toArray, List.set_cons_zero, List.set_cons_succ]
      refine held_step (i := 1) rfl (by kernel_rfl) ?_ (fun K hK => ?_)
      · rfl
      clear hH
      go_simp
      refine (CH.out _ (below_drawn HS0.out.2 1)).mono ?_
      rintro r w1 ⟨rfl, hb1⟩
      have HS1 := Lib.hid (HS0.out.next hb1 (by rfl) (by rfl) (by rfl) (by rfl))
      have hH := HS1.out
      refine hK _ _ hH ?_
      clear hK K
      simp only [List.setIfInBounds_toArray, List.set_cons_zero, List.set_cons_succ]
      refine held_take (i := 2) (v := ?_) (d := some 31) rfl rfl (by kernel_rfl) (by kernel_rfl) (by kernel_rfl) (fun _ _ _ h => h) hH ⟨?_, fun w hSw => ?_⟩ ?_
      rotate_left 1
      · rfl
      · (go_simp; all_goals with_reducible rfl)
      simp only [Act.put, List.setIfInBounds_toArray, List.set_cons_zero, List.set_cons_succ]
      first
        | refine held_skip (i := 3) (d := some 32) rfl rfl (by kernel_rfl) (by kernel_rfl) (by kernel_rfl) (fun _ _ _ h => h) hH ?_ ?_
          · rfl
          simp only [Act.put, List.setIfInBounds_toArray, List.set_cons_zero, List.set_cons_succ]
        | refine held_take (i := 3) (v := ?_) (d := some 32) rfl rfl (by kernel_rfl) (by kernel_rfl) (by kernel_rfl) (fun _ _ _ h => h) hH ⟨?_, fun w hSw => ?_⟩ ?_
          rotate_left 1
          · rfl
          · (go_simp; all_goals with_reducible rfl)
          simp only [Act.put, List.setIfInBounds_toArray, List.set_cons_zero, List.set_cons_succ]
      first
        | refine held_skip (i := 4) (d := some 33) rfl rfl (by kernel_rfl) (by kernel_rfl) (by kernel_rfl) (fun _ _ _ h => h) hH ?_ ?_
          · rfl
          simp only [Act.put, List.setIfInBounds_toArray, List.set_cons_zero, List.set_cons_succ]
        | refine held_take (i := 4) (v := ?_) (d := some 33) rfl rfl (by kernel_rfl) (by kernel_rfl) (by kernel_rfl) (fun _ _ _ h => h) hH ⟨?_, fun w hSw => ?_⟩ ?_
          rotate_left 1
          · rfl
          · obtain ⟨x0, x1, x2, x3, x4, x5, x6, x7, x8, x9, x10, x11, x12, x13⟩ := cells14 hSw.1
            (try obtain ⟨m0, m1, m2, m3⟩ := HF.out _ _ hSw.2 rfl (by decide))
            (go_simp; all_goals with_reducible rfl)
          simp only [Act.put, List.setIfInBounds_toArray, List.set_cons_zero, List.set_cons_succ]
      first
        | refine held_skip (i := 5) (d := some 34) rfl rfl (by kernel_rfl) (by kernel_rfl) (by kernel_rfl) (fun _ _ _ h => h) hH ?_ ?_
          · rfl
          simp only [Act.put, List.setIfInBounds_toArray, List.set_cons_zero, List.set_cons_succ]
        | refine held_take (i := 5) (v := ?_) (d := some 34) rfl rfl (by kernel_rfl) (by kernel_rfl) (by kernel_rfl) (fun _ _ _ h => h) hH ⟨?_, fun w hSw => ?_⟩ ?_
          rotate_left 1
          · rfl
          · (go_simp; all_goals with_reducible rfl)
          simp only [Act.put, List.setIfInBounds_toArray, List.set_cons_zero, List.set_cons_succ]
      first
        | refine held_skip (i := 6) (d := some 35) rfl rfl (by kernel_rfl) (by kernel_rfl) (by kernel_rfl) (fun _ _ _ h => h) hH ?_ ?_
          · rfl
          simp only [Act.put, List.setIfInBounds_toArray, List.set_cons_zero, List.set_cons_succ]
        | refine held_take (i := 6) (v := ?_) (d := some 35) rfl rfl (by kernel_rfl) (by kernel_rfl) (by kernel_rfl) (fun _ _ _ h => h) hH ⟨?_, fun w hSw => ?_⟩ ?_
          rotate_left 1
          · rfl
          · (go_simp; all_goals with_reducible rfl)
          simp only [Act.put, List.setIfInBounds_toArray, List.set_cons_zero, List.set_cons_succ]
      refine held_take (i := 7) (v := ?_) (d := some 36) rfl rfl (by kernel_rfl) (by kernel_rfl) (by kernel_rfl) (fun _ _ _ h => h) hH ⟨?_, fun w hSw => ?_⟩ ?_
      rotate_left 1
      · rfl
      · (go_simp; all_goals with_reducible rfl)
      simp only [Act.put, List.setIfInBounds_toArray, List.set_cons_zero, List.set_cons_succ]
      refine held_take (i := 8) (v := ?_) (d := some 37) rfl rfl (by kernel_rfl) (by kernel_rfl) (by kernel_rfl) (fun _ _ _ h => h) hH ⟨?_, fun w hSw => ?_⟩ ?_
      rotate_left 1
      · rfl
      · (go_simp; all_goals with_reducible rfl)
      simp only [Act.put, List.setIfInBounds_toArray, List.set_cons_zero, List.set_cons_succ]
      first
        | refine held_skip (i := 9) (d := some 38) rfl rfl (by kernel_rfl) (by kernel_rfl) (by kernel_rfl) (fun _ _ _ h => h) hH ?_ ?_
          · rfl
          simp only [Act.put, List.setIfInBounds_toArray, List.set_cons_zero, List.set_cons_succ]
        | refine held_take (i := 9) (v := ?_) (d := some 38) rfl rfl (by kernel_rfl) (by kernel_rfl) (by kernel_rfl) (fun _ _ _ h => h) hH ⟨?_, fun w hSw => ?_⟩ ?_
          rotate_left 1
          · rfl
          · obtain ⟨x0, x1, x2, x3, x4, x5, x6, x7, x8, x9, x10, x11, x12, x13⟩ := cells14 hSw.1
            (try obtain ⟨m0, m1, m2, m3⟩ := HF.out _ _ hSw.2 rfl (by decide))
            (go_simp; all_goals with_reducible rfl)
          simp only [Act.put, List.setIfInBounds_toArray, List.set_cons_zero, List.set_cons_succ]
      first
        | refine held_skip (i := 10) (d := some 39) rfl rfl (by kernel_rfl) (by kernel_rfl) (by kernel_rfl) (fun _ _ _ h => h) hH ?_ ?_
          · rfl
          simp only [Act.put, List.setIfInBounds_toArray, List.set_cons_zero, List.set_cons_succ]
        | refine held_take (i := 10) (v := ?_) (d := some 39) rfl rfl (by kernel_rfl) (by kernel_rfl) (by kernel_rfl) (fun _ _ _ h => h) hH ⟨?_, fun w hSw => ?_⟩ ?_
          rotate_left 1
          · rfl
          · (go_simp; all_goals with_reducible rfl)
          simp only [Act.put, List.setIfInBounds_toArray, List.set_cons_zero, List.set_cons_succ]
      first
        | refine held_skip (i := 11) (d := some 40) rfl rfl (by kernel_rfl) (by kernel_rfl) (by kernel_rfl) (fun _ _ _ h => h) hH ?_ ?_
          · rfl
          simp only [Act.put, List.setIfInBounds_toArray, List.set_cons_zero, List.set_cons_succ]
        | refine held_take (i := 11) (v := ?_) (d := some 40) rfl rfl (by kernel_rfl) (by kernel_rfl) (by kernel_rfl) (fun _ _ _ h => h) hH ⟨?_, fun w hSw => ?_⟩ ?_
          rotate_left 1
          · rfl
          · obtain ⟨x0, x1, x2, x3, x4, x5, x6, x7, x8, x9, x10, x11, x12, x13⟩ := cells14 hSw.1
            (try obtain ⟨m0, m1, m2, m3⟩ := HF.out _ _ hSw.2 rfl (by decide))
            (go_simp; all_goals with_reducible rfl)
          simp only [Act.put, List.setIfInBounds_toArray, List.set_cons_zero, List.set_cons_succ]
      first
        | refine held_skip (i := 12) (d := some 41) rfl rfl (by kernel_rfl) (by kernel_rfl) (by kernel_rfl) (fun _ _ _ h => h) hH ?_ ?_
          · rfl
          simp only [Act.put, List.setIfInBounds_toArray, List.set_cons_zero, List.set_cons_succ]
        | refine held_take (i := 12) (v := ?_) (d := some 41) rfl rfl (by kernel_rfl) (by kernel_rfl) (by kernel_rfl) (fun _ _ _ h => h) hH ⟨?_, fun w hSw => ?_⟩ ?_
          rotate_left 1
          · rfl
          · obtain ⟨x0, x1, x2, x3, x4, x5, x6, x7, x8, x9, x10, x11, x12, x13⟩ := cells14 hSw.1
            (try obtain ⟨m0, m1, m2, m3⟩ := HF.out _ _ hSw.2 rfl (by decide))
            (go_simp; all_goals with_reducible rfl)
          simp only [Act.put, List.setIfInBounds_toArray, List.set_cons_zero, List.set_cons_succ]
      first
        | refine held_skip (i := 13) (d := some 42) rfl rfl (by kernel_rfl) (by kernel_rfl) (by kernel_rfl) (fun _ _ _ h => h) hH ?_ ?_
          · rfl
          simp only [Act.put, List.setIfInBounds_toArray, List.set_cons_zero, List.set_cons_succ]
        | refine held_take (i := 13) (v := ?_) (d := some 42) rfl rfl (by kernel_rfl) (by kernel_rfl) (by kernel_rfl) (fun _ _ _ h => h) hH ⟨?_, fun w hSw => ?_⟩ ?_
          rotate_left 1
          · rfl
          · obtain ⟨x0, x1, x2, x3, x4, x5, x6, x7, x8, x9, x10, x11, x12, x13⟩ := cells14 hSw.1
            (try obtain ⟨m0, m1, m2, m3⟩ := HF.out _ _ hSw.2 rfl (by decide))
            (go_simp; all_goals with_reducible rfl)
          simp only [Act.put, List.setIfInBounds_toArray, List.set_cons_zero, List.set_cons_succ]
      first
        | refine held_skip (i := 14) (d := some 43) rfl rfl (by kernel_rfl) (by kernel_rfl) (by kernel_rfl) (fun _ _ _ h => h) hH ?_ ?_
          · rfl
          simp only [Act.put, List.setIfInBounds_toArray, List.set_cons_zero, List.set_cons_succ]
        | refine held_step (i := 14) rfl (by kernel_rfl) ?_ (fun K hK => ?_)
          · rfl
          clear hH
          go_simp
          refine (CB.out _).mono ?_
          rintro r w2 ⟨rfl, hb2⟩
          have HS2 := Lib.hid (HS1.out.next hb2 (by rfl) (by rfl) (by rfl) (by rfl))
          have hH := HS2.out
          refine hK _ _ hH ?_
          clear hK K
          simp only [List.setIfInBounds_toArray, List.set_cons_zero, List.set_cons_succ]
      refine held_take (i := 15) (v := ?_) (d := some 44) rfl rfl (by kernel_rfl) (by kernel_rfl) (by kernel_rfl) (fun _ _ _ h => h) hH ⟨?_, fun w hSw => ?_⟩ ?_
      rotate_left 1
      · rfl
      · (go_simp; all_goals with_reducible rfl)
      simp only [Act.put, List.setIfInBounds_toArray, List.set_cons_zero, List.set_cons_succ]
      refine held_take (i := 16) (v := ?_) (d := some 2) rfl rfl (by kernel_rfl) (by kernel_rfl) (by kernel_rfl) (fun _ _ _ h => h) hH ⟨?_, fun w hSw => ?_⟩ ?_
      rotate_left 1
      · rfl
      · (go_simp; all_goals with_reducible rfl)
      simp only [Act.put, List.setIfInBounds_toArray, List.set_cons_zero, List.set_cons_succ]
      refine wpAnyH_done (by kernel_rfl) ?_ _
      (try go_wp2_with fail)
      go_ret
      first
        | exact ⟨rfl, HS2.out.2⟩
        | exact ⟨rfl, HS1.out.2⟩
  · have HR : Hid (res = false) := HV4.out p1 p2 p3
    clear HV1 HV2 HV3 HV4
    rw [HR.out]
    have d1 := beq_no p1
    have d2 := beq_no p2
    have d3 := beq_no p3
    go_enter Tryd.func61, Tryd.ntmps61
    go_upto_region 1 with fail
    generalize w.alloc (.cells _ 27) = w0 at *
    obtain ⟨x0, x1, x2, x3, x4, x5, x6, x7, x8, x9, x10, x11, x12, x13⟩ := cells14 HS0.out.1
    go_wp2
    go_ret
    exact ⟨rfl, HS0.out.2⟩
end Go.Proofs.YtcjnhemlkahgoaaDoor
end
section
namespace Go.Proofs.YtcjnhemlkahgoaaDoor
open Go.RowKit
theorem ways5 (t0 t1 t2 t3 t4 : Bool) : t0 = false ∨ (t0 = true ∧ t1 = false) ∨ (t0 = true ∧ t1 = true ∧ t2 = false) ∨ (t0 = true ∧ t1 = true ∧ t2 = true ∧ t3 = false) ∨ (t0 = true ∧ t1 = true ∧ t2 = true ∧ t3 = true ∧ t4 = false) ∨ (t0 = true ∧ t1 = true ∧ t2 = true ∧ t3 = true ∧ t4 = true) := by
  cases t0 <;> cases t1 <;> cases t2 <;> cases t3 <;> cases t4 <;> simp
theorem valid_bool (s : Sb.S) : decide (Sb.valid s) = (decide (1 ≤ s.gen ∧ s.gen ≤ 1099511627775) && (decide (0 ≤ s.mig ∧ s.mig ≤ 4294967295) && (decide (0 ≤ s.tail ∧ s.tail ≤ 281474976710655) && (decide (0 ≤ s.now ∧ s.now ≤ 549755813888) && (decide (Sb.form s.t) && decide (Sb.suits s)))))) := by
  simp only [← Bool.decide_and]
  exact decide_eq_decide.2 ⟨fun ⟨⟨h1, h2, h3, h4, h5⟩, h6⟩ => ⟨h1, h2, h3, h4, h5, h6⟩, fun ⟨h1, h2, h3, h4, h5, h6⟩ => ⟨⟨h1, h2, h3, h4, h5⟩, h6⟩⟩
set_option maxHeartbeats 4000000 in
theorem sbvalid_any (a0 a1 a2 a3 a4 t0 t1 t2 t3 h0 h1 h2 h3 : Int) (A : Option Addr) (B n c : Nat) (l : List Sb.L) (w : World) (hB : B ≤ w.heap.size) (hs : SlIs A n c) (hl : Hid (l.length = n)) (hb : Hid (Ls w B A l)) :
    Calls Tryd.prog 36 #[.agg #[.int .i64 a0, .int .i64 a1, .int .i64 a2, .int .i64 a3, .int .i64 a4, .int .i64 t0, .int .i64 t1, .int .i64 t2, .int .i64 t3, .int .i64 h0, .int .i64 h1, .int .i64 h2, .int .i64 h3, .slice A n c]] w
      fun r w' => r = .returned (.bool (decide (Sb.valid ⟨a0, a1, a2, a3, a4, ⟨t0, t1, t2, t3⟩, ⟨h0, h1, h2, h3⟩, l⟩))) ∧ Below w.heap.size w w' := by
  have HV := Lib.hid (valid_bool ⟨a0, a1, a2, a3, a4, ⟨t0, t1, t2, t3⟩, ⟨h0, h1, h2, h3⟩, l⟩)
  simp only at HV
  generalize decide (Sb.valid ⟨a0, a1, a2, a3, a4, ⟨t0, t1, t2, t3⟩, ⟨h0, h1, h2, h3⟩, l⟩) = res at *
  have CS : Hid (∀ W, Below w.heap.size w W → Calls Tryd.prog 61 #[.agg #[.int .i64 a0, .int .i64 a1, .int .i64 a2, .int .i64 a3, .int .i64 a4, .int .i64 t0, .int .i64 t1, .int .i64 t2, .int .i64 t3, .int .i64 h0, .int .i64 h1, .int .i64 h2, .int .i64 h3, .slice A n c]] W fun r w' => r = .returned (.bool (decide (Sb.suits ⟨a0, a1, a2, a3, a4, ⟨t0, t1, t2, t3⟩, ⟨h0, h1, h2, h3⟩, l⟩))) ∧ Below W.heap.size W w') := fun W hW =>
    sbsuits_any a0 a1 a2 a3 a4 t0 t1 t2 t3 h0 h1 h2 h3 A B n c l W (Nat.le_trans hB hW.size) hs hl (hb.out.below hW hB)
  generalize decide (Sb.suits ⟨a0, a1, a2, a3, a4, ⟨t0, t1, t2, t3⟩, ⟨h0, h1, h2, h3⟩, l⟩) = k5 at *
  have C0 := Lib.hid (fun W => sbwithin_any a0 1 1099511627775 W)
  have C1 := Lib.hid (fun W => sbwithin_any a2 0 4294967295 W)
  have C2 := Lib.hid (fun W => sbwithin_any a3 0 281474976710655 W)
  have C3 := Lib.hid (fun W => sbwithin_any a4 0 549755813888 W)
  have C4 := Lib.hid (fun W => sbform_any t0 t1 t2 t3 W)
  generalize decide (1 ≤ a0 ∧ a0 ≤ 1099511627775) = k0 at *
  generalize decide (0 ≤ a2 ∧ a2 ≤ 4294967295) = k1 at *
  generalize decide (0 ≤ a3 ∧ a3 ≤ 281474976710655) = k2 at *
  generalize decide (0 ≤ a4 ∧ a4 ≤ 549755813888) = k3 at *
  generalize decide (Sb.form ⟨t0, t1, t2, t3⟩) = k4 at *
  clear hl hb hB hs
  have HS0 := Lib.hid (sd_new w #[.int .i64 a0, .int .i64 a1, .int .i64 a2, .int .i64 a3, .int .i64 a4, .int .i64 t0, .int .i64 t1, .int .i64 t2, .int .i64 t3, .int .i64 h0, .int .i64 h1, .int .i64 h2, .int .i64 h3, .slice A n c] 27)
  rcases ways5 k0 k1 k2 k3 k4 with rfl | ⟨rfl, rfl⟩ | ⟨rfl, rfl, rfl⟩ | ⟨rfl, rfl, rfl, rfl⟩ | ⟨rfl, rfl, rfl, rfl, rfl⟩ | ⟨rfl, rfl, rfl, rfl, rfl⟩
  all_goals
    rw [HV.out]
    simp only [Bool.true_and, Bool.false_and]
    clear HV
    go_enter Tryd.func36, Tryd.ntmps36
    go_upto_region 1 with fail
    generalize w.alloc (.cells _ 27) = w0 at *
    obtain ⟨x0, x1, x2, x3, x4, x5, x6, x7, x8, x9, x10, x11, x12, x13⟩ := cells14 HS0.out.1
    go_wp2_with (first
      | (go_at_call 60; first
          | (with_reducible refine (C0.out _).mono ?_; rintro r w' ⟨rfl, rfl⟩)
          | (with_reducible refine (C1.out _).mono ?_; rintro r w' ⟨rfl, rfl⟩)
          | (with_reducible refine (C2.out _).mono ?_; rintro r w' ⟨rfl, rfl⟩)
          | (with_reducible refine (C3.out _).mono ?_; rintro r w' ⟨rfl, rfl⟩))
      | (go_at_call 37; refine (C4.out _).mono ?_; rintro r w1 ⟨rfl, hb1⟩; have HS1 := Lib.hid (HS0.out.next hb1 (by rfl) (by rfl) (by rfl) (by rfl)); clear x0 x1 x2 x3 x4 x5 x6 x7 x8 x9 x10 x11 x12 x13 hb1; obtain ⟨x0, x1, x2, x3, x4, x5, x6, x7, x8, x9, x10, x11, x12, x13⟩ := cells14 HS1.out.1)
      | (go_at_call 61; refine (CS.out _ HS1.out.2).mono ?_; rintro r w2 ⟨rfl, hb2⟩; have HS2 := Lib.hid (HS1.out.next hb2 (by rfl) (by rfl) (by rfl) (by rfl)); clear hb2))
    go_ret
    first
      | exact ⟨rfl, HS2.out.2⟩
      | exact ⟨rfl, HS1.out.2⟩
      | exact ⟨rfl, HS0.out.2⟩
end Go.Proofs.YtcjnhemlkahgoaaDoor
end
