/-
  The walk of the law GeometryFree.
-/
import Derived.Test.YtcjeobjklbmgiaaGmAwake
import Derived.Test.YtcjeobjklbmgiaaGmRefFree
import Derived.BigQuiet
import Derived.IntWalk
import Derived.Deep.DeepCutAuto
import Derived.Deep.CutBlock
import Derived.Deep.RegionHeld3
set_option maxRecDepth 100000
namespace Go.Proofs.Ytcjeobjklbmgiaa
open Go.RowKit
theorem arr_min {w : World} {B m : Nat} {A : Option Addr} {l : List Gm.R} {n k : Nat} (hl : l.length = n) (h : MinIs n k m) (hb : Arr regS w 0 B A l) : (l.take m).length = m ∧ Arr regS w 0 B A (l.take m) := ⟨by rw [List.length_take]; have := min_le h; omega, hb.take m⟩
set_option maxHeartbeats 4000000 in
theorem geometryfree_any (a b c d : Int) (A : Option Addr) (n cap : Nat) (live : List Gm.R) (w : World) (hs : SlIs A n cap) (hl : Hid (live.length = n)) (hb : Hid (Arr regS w 0 w.heap.size A live)) :
    Calls Try.prog 5 #[.agg #[.int .i64 a, .int .i64 b, .int .i64 c, .int .i64 d], .slice A n cap] w fun r w' => r = .returned (.bool true) ∧ Below w.heap.size w w' := by
  obtain ⟨m, hm⟩ := min_is n 10
  obtain ⟨a1, a2⟩ := arr_min hl.out hm hb.out
  have q := min_sl hs hm
  have hm10 : m ≤ 10 := by unfold MinIs at hm; omega
  have CF : Hid (∀ W, Below w.heap.size w W → Calls Try.prog 17 #[.agg #[.int .i64 a, .int .i64 b, .int .i64 c, .int .i64 d], .slice A m cap] W fun r w' => ∃ A1 c1, r = .returned (.slice A1 (Gm.free ⟨a, b, c, d⟩ (live.take m)).length c1) ∧ Arr intS w' W.heap.size w'.heap.size A1 (Gm.ints (Gm.free ⟨a, b, c, d⟩ (live.take m))) ∧ Below W.heap.size W w') := fun W hW =>
    (gmfree_any a b c d A 0 w.heap.size m cap (live.take m) W hW.size (Lib.hid a1) (by omega) (Lib.hid (a2.below hW (Nat.le_refl _)))).mono fun r w' h => by
      obtain ⟨v, rfl, h1, h2⟩ := h
      obtain ⟨A1, c1, rfl, _, h3⟩ := h1.open_
      exact ⟨_, _, rfl, h3, h2⟩
  have CR : Hid (∀ W, Below w.heap.size w W → Calls Try.prog 18 #[.agg #[.int .i64 a, .int .i64 b, .int .i64 c, .int .i64 d], .slice A m cap] W fun r w' => ∃ A1 c1, r = .returned (.slice A1 (Gm.free ⟨a, b, c, d⟩ (live.take m)).length c1) ∧ Arr intS w' W.heap.size w'.heap.size A1 (Gm.ints (Gm.free ⟨a, b, c, d⟩ (live.take m))) ∧ Below W.heap.size W w') := fun W hW =>
    (refgmfree_any a b c d A 0 w.heap.size m cap (live.take m) W hW.size (Lib.hid a1) (by omega) (Lib.hid (a2.below hW (Nat.le_refl _)))).mono fun r w' h => by
      obtain ⟨v, rfl, h1, h2⟩ := h
      obtain ⟨A1, c1, rfl, _, h3⟩ := h1.open_
      exact ⟨_, _, rfl, h3, h2⟩
  have HQ : Hid ((Gm.free ⟨a, b, c, d⟩ (live.take m)).length ≤ 16) := by
    show _ ≤ 16
    rw [← Gm.refTo_all]
    exact Gm.refTo_length _ _ _
  have HL : Hid ((Gm.ints (Gm.free ⟨a, b, c, d⟩ (live.take m))).length = (Gm.free ⟨a, b, c, d⟩ (live.take m)).length) := ints_length _
  generalize Gm.ints (Gm.free ⟨a, b, c, d⟩ (live.take m)) = L at *
  generalize (Gm.free ⟨a, b, c, d⟩ (live.take m)).length = k at *
  have CI : Hid (∀ W A1 A2 lo B lo' B' c1 c2, Arr intS W lo B A1 L → Arr intS W lo' B' A2 L → Calls Try.prog 16 #[.slice A1 k c1, .slice A2 k c2] W fun r w' => r = .returned (.bool true) ∧ Below W.heap.size W w') := fun W A1 A2 lo B lo' B' c1 c2 h1 h2 => by
    have h := refints_any A1 A2 lo B lo' B' k k c1 c2 L L W HL HL (by have := HQ.out; omega) (by have := HQ.out; omega) (Lib.hid h1) (Lib.hid h2)
    rwa [decide_eq_true rfl] at h
  have hnc := hs.2.1
  have hc63 := hs.2.2
  have HS0 := Lib.hid (sd_new w #[.int .i64 a, .int .i64 b, .int .i64 c, .int .i64 d] 23)
  clear a1 a2 q hs hb hl
  go_enter Try.func5, Try.ntmps5
  go_upto_region 1 with fail
  generalize w.alloc (.cells #[.int .i64 a, .int .i64 b, .int .i64 c, .int .i64 d] 23) = w0 at *
  go_cut [1] (fun s wx => s = .slice A m cap ∧ w0 = wx)
  case first =>
    unfold MinIs at hm
    rcases hm with ⟨i0, rfl⟩ | ⟨i0, rfl⟩
    all_goals
      go_wp2_with fail
      go_meet
      exact ⟨rfl, rfl⟩
  case rest =>
    obtain ⟨rfl, rfl⟩ := hcut
    go_upto_region 2 with fail
    refine wp_region_held_drew (S := (fun W => Sd w w.heap.size (.cells #[.int .i64 a, .int .i64 b, .int .i64 c, .int .i64 d] 23 (0, 0)) W)) (by kernel_rfl) ((sd_drew HS0.out)) (fun hH => ?_)
    change wpAnyH _ _ _ _ _ 11 #[false, false, false, false, false, false, false, false, false, false, false] _ _
    refine held_step (i := 0) rfl (by kernel_rfl) ?_ (fun K hK => ?_)
    · rfl
    go_simp
    refine ((fun W => gmawake_any W) _).mono ?_
    rintro r w' ⟨rfl, hb'⟩
    replace hH := hH.next hb' (by rfl) (by rfl) (by rfl) (by rfl)
    refine hK _ _ hH ?_
    clear hK K
    simp only [List.setIfInBounds_toArray, List.set_cons_zero]
    refine held_take (i := 1) (v := ?_) (d := some 11) rfl rfl (by kernel_rfl) (by kernel_rfl) (by kernel_rfl) (fun _ _ _ h => h) hH ⟨?_, fun w hSw => ?_⟩ ?_
    rotate_left 1
    · rfl
    · (go_simp; all_goals with_reducible rfl)
    simp only [Act.put, List.setIfInBounds_toArray, List.set_cons_zero, List.set_cons_succ]
    first
      | refine held_skip (i := 2) (d := some 12) rfl rfl (by kernel_rfl) (by kernel_rfl) (by kernel_rfl) (fun _ _ _ h => h) hH ?_ ?_
        · rfl
        simp only [Act.put, List.setIfInBounds_toArray, List.set_cons_zero, List.set_cons_succ]
      | refine held_take (i := 2) (v := ?_) (d := some 12) rfl rfl (by kernel_rfl) (by kernel_rfl) (by kernel_rfl) (fun _ _ _ h => h) hH ⟨?_, fun w hSw => ?_⟩ ?_
        rotate_left 1
        · rfl
        · obtain ⟨x0, x1, x2, x3⟩ := four_cells hSw.1
          (go_simp; all_goals with_reducible rfl)
        simp only [Act.put, List.setIfInBounds_toArray, List.set_cons_zero, List.set_cons_succ]
    first
      | refine held_skip (i := 3) (d := some 13) rfl rfl (by kernel_rfl) (by kernel_rfl) (by kernel_rfl) (fun _ _ _ h => h) hH ?_ ?_
        · rfl
        simp only [Act.put, List.setIfInBounds_toArray, List.set_cons_zero, List.set_cons_succ]
      | refine held_take (i := 3) (v := ?_) (d := some 13) rfl rfl (by kernel_rfl) (by kernel_rfl) (by kernel_rfl) (fun _ _ _ h => h) hH ⟨?_, fun w hSw => ?_⟩ ?_
        rotate_left 1
        · rfl
        · (go_simp; all_goals with_reducible rfl)
        simp only [Act.put, List.setIfInBounds_toArray, List.set_cons_zero, List.set_cons_succ]
    first
      | refine held_skip (i := 5) (d := some 15) rfl rfl (by kernel_rfl) (by kernel_rfl) (by kernel_rfl) (fun _ _ _ h => h) hH ?_ ?_
        · rfl
        simp only [Act.put, List.setIfInBounds_toArray, List.set_cons_zero, List.set_cons_succ]
      | refine held_take (i := 5) (v := ?_) (d := some 15) rfl rfl (by kernel_rfl) (by kernel_rfl) (by kernel_rfl) (fun _ _ _ h => h) hH ⟨?_, fun w hSw => ?_⟩ ?_
        rotate_left 1
        · rfl
        · obtain ⟨x0, x1, x2, x3⟩ := four_cells hSw.1
          (go_simp; all_goals with_reducible rfl)
        simp only [Act.put, List.setIfInBounds_toArray, List.set_cons_zero, List.set_cons_succ]
    first
      | refine held_skip (i := 6) (d := some 16) rfl rfl (by kernel_rfl) (by kernel_rfl) (by kernel_rfl) (fun _ _ _ h => h) hH ?_ ?_
        · rfl
        simp only [Act.put, List.setIfInBounds_toArray, List.set_cons_zero, List.set_cons_succ]
      | refine held_take (i := 6) (v := ?_) (d := some 16) rfl rfl (by kernel_rfl) (by kernel_rfl) (by kernel_rfl) (fun _ _ _ h => h) hH ⟨?_, fun w hSw => ?_⟩ ?_
        rotate_left 1
        · rfl
        · (go_simp; all_goals with_reducible rfl)
        simp only [Act.put, List.setIfInBounds_toArray, List.set_cons_zero, List.set_cons_succ]
    first
      | refine held_skip (i := 4) (d := some 14) rfl rfl (by kernel_rfl) (by kernel_rfl) (by kernel_rfl) (fun _ _ _ h => h) hH ?_ ?_
        · rfl
        simp only [Act.put, List.setIfInBounds_toArray, List.set_cons_zero, List.set_cons_succ]
      | refine held_step (i := 4) rfl (by kernel_rfl) ?_ (fun K hK => ?_)
        · rfl
        go_simp
        refine (CF.out _ hH.2).mono ?_
        rintro r w' ⟨A1, c1, rfl, ha1, hb'⟩
        have HA1 := Lib.hid ha1
        clear ha1
        replace hH := hH.next hb' (by rfl) (by rfl) (by rfl) (by rfl)
        refine hK _ _ hH ?_
        clear hK K
        simp only [List.setIfInBounds_toArray, List.set_cons_zero, List.set_cons_succ]
    first
      | refine held_skip (i := 7) (d := some 17) rfl rfl (by kernel_rfl) (by kernel_rfl) (by kernel_rfl) (fun _ _ _ h => h) hH ?_ ?_
        · rfl
        simp only [Act.put, List.setIfInBounds_toArray, List.set_cons_zero, List.set_cons_succ]
      | refine held_step (i := 7) rfl (by kernel_rfl) ?_ (fun K hK => ?_)
        · rfl
        go_simp
        refine (CR.out _ hH.2).mono ?_
        rintro r w' ⟨A2, c2, rfl, ha2, hb'⟩
        have HA2 := Lib.hid ha2
        have HA3 := Lib.hid (HA1.out.below hb' (Nat.le_refl _))
        clear ha2
        replace hH := hH.next hb' (by rfl) (by rfl) (by rfl) (by rfl)
        refine hK _ _ hH ?_
        clear hK K
        simp only [List.setIfInBounds_toArray, List.set_cons_zero, List.set_cons_succ]
    first
      | refine held_skip (i := 8) (d := some 18) rfl rfl (by kernel_rfl) (by kernel_rfl) (by kernel_rfl) (fun _ _ _ h => h) hH ?_ ?_
        · rfl
        simp only [Act.put, List.setIfInBounds_toArray, List.set_cons_zero, List.set_cons_succ]
      | refine held_step (i := 8) rfl (by kernel_rfl) ?_ (fun K hK => ?_)
        · rfl
        go_simp
        refine (CI.out _ _ _ _ _ _ _ _ _ HA3.out HA2.out).mono ?_
        rintro r w' ⟨rfl, hb'⟩
        replace hH := hH.next hb' (by rfl) (by rfl) (by rfl) (by rfl)
        refine hK _ _ hH ?_
        clear hK K
        simp only [List.setIfInBounds_toArray, List.set_cons_zero, List.set_cons_succ]
    refine held_take (i := 9) (v := ?_) (d := some 19) rfl rfl (by kernel_rfl) (by kernel_rfl) (by kernel_rfl) (fun _ _ _ h => h) hH ⟨?_, fun w hSw => ?_⟩ ?_
    rotate_left 1
    · rfl
    · (go_simp; all_goals with_reducible rfl)
    simp only [Act.put, List.setIfInBounds_toArray, List.set_cons_zero, List.set_cons_succ]
    refine held_take (i := 10) (v := ?_) (d := some 4) rfl rfl (by kernel_rfl) (by kernel_rfl) (by kernel_rfl) (fun _ _ _ h => h) hH ⟨?_, fun w hSw => ?_⟩ ?_
    rotate_left 1
    · rfl
    · (go_simp; all_goals with_reducible rfl)
    simp only [Act.put, List.setIfInBounds_toArray, List.set_cons_zero, List.set_cons_succ]
    refine wpAnyH_done (by kernel_rfl) ?_ _
    (try go_wp2_with fail)
    have HBB := Lib.hid hH.2
    go_ret
    exact ⟨rfl, HBB.out⟩
end Go.Proofs.Ytcjeobjklbmgiaa
