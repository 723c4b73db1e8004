/-
  The walk of the statement on Drop.
-/
import Derived.Test.YtlhjofcpcccdpaaChBef
import Derived.Test.YtlhjofcpcccdpaaRowApp
import Derived.Deep.RegionHeld3
set_option maxRecDepth 100000
namespace Go.Proofs.Ytlhjofcpcccdpaa
open Go.RowKit Go.Maps
set_option maxHeartbeats 8000000 in
theorem chaindrop_any (A : Option Addr) (n cap : Nat) (l : List COp) (sq : Int) (w : World) (hs : SlIs A n cap) (hl : Hid (l.length = n)) (hb : Hid (Arr copS w 0 w.heap.size A l)) :
    Calls Try.prog 5 #[.slice A n cap, .int .i64 sq] w fun e w' => e = .returned (.bool true) ∧ Below w.heap.size w w' := by
  have hcap := hs.2.2
  have hnc := hs.2.1
  obtain ⟨B, hB⟩ : ∃ B, w.heap.size = B := ⟨_, rfl⟩
  have CN := Lib.hid (chnew_any 0 w)
  rw [hB] at hb
  have HB := Lib.hid hB
  rw [hB]
  clear hB
  have HZ : Hid (∀ W, Below B w W → B ≤ W.heap.size) := fun W h => HB.out ▸ h.size
  have HM1 : Hid (∀ W W', Below B w W → Below W.heap.size W W' → Below B w W') := fun W W' h h' => h.trans (h'.mono (HZ.out W h))
  go_enter Try.func5, Try.ntmps5
  go_wp2_with fail
  refine CN.out.mono ?_
  rw [HB.out]
  rintro e w1 ⟨rfl, hb1, hT1⟩
  have HB1 := Lib.hid hb1
  have HS1 : Hid (CSt B w1 B (fun k => k = B) 0 (fun _ => [])) := ⟨fun k e => by rw [e]; exact ⟨Nat.le_refl _, hT1.lt⟩, hT1⟩
  clear hb1 hT1 CN
  go_upto_block 0 with fail
  go_cut [5] (fun s wx => s = .pointer (some ⟨B, 0, none⟩) ∧ Hid (∃ k S H, k ≤ 30 ∧ CSt B wx B S k H) ∧ Hid (Below B w wx))
  case first =>
    go_wp2_with fail
    go_loopw [6] (fun iv wr => ∃ k : Nat, k ≤ n ∧ k ≤ 30 ∧ iv = .int .i64 (k : Int) ∧ Hid (∃ S H, CSt B wr B S k H) ∧ Hid (Below B w wr)) (fun i _ => n - (Go.RowKit.intOf i).toNat)
    case atStart => exact ⟨0, Nat.zero_le _, Nat.zero_le _, rfl, ⟨_, _, HS1.out⟩, HB1⟩
    case round =>
      clear HS1 HB1
      obtain ⟨k, hk, hk2, rfl, hstt, hbel⟩ := hrel
      obtain ⟨S, H, hst⟩ := hstt.out
      have hst := Lib.hid hst
      clear hstt
      by_cases hlt : k < n ∧ k < 30
      · obtain ⟨hlt, hlt2⟩ := hlt
        have hd0 : decide ((k : Int) < 30) = true := decide_eq_true (by omega)
        obtain ⟨ad, rfl⟩ := hb.out.some (k := k) (by rw [hl.out]; exact hlt)
        obtain ⟨p, hp⟩ : ∃ p, l.getD k copS.z = p := ⟨_, rfl⟩
        have HM : Hid (∀ W, Below B w W → W.cell? (ad.add (k * 4)) = some (.int .i64 p.kd) ∧ W.cell? ⟨(ad.add (k * 4)).block, (ad.add (k * 4)).off + 1, none⟩ = some (.int .i64 p.sq) ∧ W.cell? ⟨(ad.add (k * 4)).block, (ad.add (k * 4)).off + 2, none⟩ = some (.int .i64 p.of) ∧ W.cell? ⟨(ad.add (k * 4)).block, (ad.add (k * 4)).off + 3, none⟩ = some (.string p.k)) := fun W hW => cops_at (hb.out.below hW (Nat.le_refl _)) k (by rw [hl.out]; exact hlt) _ hp
        obtain ⟨N3, hN3, hA3⟩ := ch_and p.sq 3 3 (by decide) (by decide)
        obtain ⟨N15, hN15, hA15⟩ := ch_and p.of 15 15 (by decide) (by decide)
        obtain ⟨m, hm⟩ : ∃ m, m = min p.k.size 10 := ⟨_, rfl⟩
        have hmi : min (p.k.size : Int) 10 = (m : Int) := by omega
        have hmi2 : (if (10 : Int) < (p.k.size : Int) then (10 : Int) else (p.k.size : Int)) = (m : Int) := by split <;> omega
        have hm1 : m ≤ p.k.size := by omega
        have hcut : p.k.extract 0 m = ten p.k := by rw [hm]; rfl
        have HTS := Lib.hid (ten_size p.k)
        obtain ⟨kd, sq0, of, ks, h1, h2⟩ := p
        simp only at HM hA3 hA15 hmi hmi2 hm1 hcut HTS
        have HW3 := Lib.hid (wf_nat N3 (by omega))
        have HW15 := Lib.hid (wf_nat N15 (by omega))
        have HBa : Hid (Below B w wr.drew) := ⟨hbel.out.os, hbel.out.tape, hbel.out.output, hbel.out.size, hbel.out.block⟩
        have HSa : Hid (CSt B wr.drew B S k H) := hst.out.next ⟨rfl, rfl, rfl, Nat.le_refl _, fun _ _ => rfl⟩
        clear hp h1 h2 hN3 hN15 hm hbel hst
        go_upto_region 5 with fail
        refine wp_region_held_drew (S := fun W => W.cell? (ad.add (k * 4)) = some (.int .i64 kd) ∧ W.cell? ⟨(ad.add (k * 4)).block, (ad.add (k * 4)).off + 1, none⟩ = some (.int .i64 sq0) ∧ W.cell? ⟨(ad.add (k * 4)).block, (ad.add (k * 4)).off + 2, none⟩ = some (.int .i64 of) ∧ W.cell? ⟨(ad.add (k * 4)).block, (ad.add (k * 4)).off + 3, none⟩ = some (.string ks)) (by kernel_rfl) (HM.out _ HBa.out) (fun hH => ?_)
        change wpAnyH _ _ _ _ _ 27 #[false, false, false, false, false, false, false, false, false, false, false, false, false, false, false, false, false, false, false, false, false, false, false, false, false, false, false] _ _
        clear hH
        generalize wr.drew = wa at *
        refine held_take (i := 0) (v := ?_) (d := some 23) rfl rfl (by kernel_rfl) (by kernel_rfl) (by kernel_rfl) (fun _ _ _ h => h) (HM.out _ HBa.out) ⟨?_, fun w hSw => ?_⟩ ?_
        rotate_left 1
        · rfl
        · (go_simp; all_goals with_reducible rfl)
        simp only [Act.put, List.setIfInBounds_toArray, List.set_cons_zero, List.set_cons_succ]
        refine held_take (i := 1) (v := ?_) (d := some 24) rfl rfl (by kernel_rfl) (by kernel_rfl) (by kernel_rfl) (fun _ _ _ h => h) (HM.out _ HBa.out) ⟨?_, fun w hSw => ?_⟩ ?_
        rotate_left 1
        · rfl
        · (go_simp; all_goals with_reducible rfl)
        simp only [Act.put, List.setIfInBounds_toArray, List.set_cons_zero, List.set_cons_succ]
        refine held_take (i := 2) (v := ?_) (d := some 25) rfl rfl (by kernel_rfl) (by kernel_rfl) (by kernel_rfl) (fun _ _ _ h => h) (HM.out _ HBa.out) ⟨?_, fun w hSw => ?_⟩ ?_
        rotate_left 1
        · rfl
        · (go_simp; all_goals with_reducible rfl)
        simp only [Act.put, List.setIfInBounds_toArray, List.set_cons_zero, List.set_cons_succ]
        refine held_take (i := 3) (v := ?_) (d := some 26) rfl rfl (by kernel_rfl) (by kernel_rfl) (by kernel_rfl) (fun _ _ _ h => h) (HM.out _ HBa.out) ⟨?_, fun w hSw => ?_⟩ ?_
        rotate_left 1
        · rfl
        · obtain ⟨y0, y1, y2, y3⟩ := hSw
          (go_simp; all_goals with_reducible rfl)
        simp only [Act.put, List.setIfInBounds_toArray, List.set_cons_zero, List.set_cons_succ]
        refine held_take (i := 4) (v := ?_) (d := some 27) rfl rfl (by kernel_rfl) (by kernel_rfl) (by kernel_rfl) (fun _ _ _ h => h) (HM.out _ HBa.out) ⟨?_, fun w hSw => ?_⟩ ?_
        rotate_left 1
        · rfl
        · (go_simp; all_goals with_reducible rfl)
        simp only [Act.put, List.setIfInBounds_toArray, List.set_cons_zero, List.set_cons_succ]
        refine held_take (i := 5) (v := ?_) (d := some 28) rfl rfl (by kernel_rfl) (by kernel_rfl) (by kernel_rfl) (fun _ _ _ h => h) (HM.out _ HBa.out) ⟨?_, fun w hSw => ?_⟩ ?_
        rotate_left 1
        · rfl
        · obtain ⟨y0, y1, y2, y3⟩ := hSw
          (go_simp; all_goals with_reducible rfl)
        simp only [Act.put, List.setIfInBounds_toArray, List.set_cons_zero, List.set_cons_succ]
        refine held_take (i := 6) (v := ?_) (d := some 29) rfl rfl (by kernel_rfl) (by kernel_rfl) (by kernel_rfl) (fun _ _ _ h => h) (HM.out _ HBa.out) ⟨?_, fun w hSw => ?_⟩ ?_
        rotate_left 1
        · rfl
        · (go_simp; all_goals with_reducible rfl)
        simp only [Act.put, List.setIfInBounds_toArray, List.set_cons_zero, List.set_cons_succ]
        refine held_take (i := 7) (v := ?_) (d := some 30) rfl rfl (by kernel_rfl) (by kernel_rfl) (by kernel_rfl) (fun _ _ _ h => h) (HM.out _ HBa.out) ⟨?_, fun w hSw => ?_⟩ ?_
        rotate_left 1
        · rfl
        · (go_simp; all_goals with_reducible rfl)
        simp only [Act.put, List.setIfInBounds_toArray, List.set_cons_zero, List.set_cons_succ]
        refine held_take (i := 8) (v := ?_) (d := some 31) rfl rfl (by kernel_rfl) (by kernel_rfl) (by kernel_rfl) (fun _ _ _ h => h) (HM.out _ HBa.out) ⟨?_, fun w hSw => ?_⟩ ?_
        rotate_left 1
        · rfl
        · (go_simp; all_goals with_reducible rfl)
        simp only [Act.put, List.setIfInBounds_toArray, List.set_cons_zero, List.set_cons_succ]
        refine held_take (i := 9) (v := ?_) (d := some 32) rfl rfl (by kernel_rfl) (by kernel_rfl) (by kernel_rfl) (fun _ _ _ h => h) (HM.out _ HBa.out) ⟨?_, fun w hSw => ?_⟩ ?_
        rotate_left 1
        · rfl
        · obtain ⟨y0, y1, y2, y3⟩ := hSw
          (go_simp; all_goals with_reducible rfl)
        simp only [Act.put, List.setIfInBounds_toArray, List.set_cons_zero, List.set_cons_succ]
        refine held_take (i := 10) (v := ?_) (d := some 33) rfl rfl (by kernel_rfl) (by kernel_rfl) (by kernel_rfl) (fun _ _ _ h => h) (HM.out _ HBa.out) ⟨?_, fun w hSw => ?_⟩ ?_
        rotate_left 1
        · rfl
        · (go_simp; all_goals with_reducible rfl)
        simp only [Act.put, List.setIfInBounds_toArray, List.set_cons_zero, List.set_cons_succ]
        refine held_take (i := 11) (v := ?_) (d := some 34) rfl rfl (by kernel_rfl) (by kernel_rfl) (by kernel_rfl) (fun _ _ _ h => h) (HM.out _ HBa.out) ⟨?_, fun w hSw => ?_⟩ ?_
        rotate_left 1
        · rfl
        · obtain ⟨y0, y1, y2, y3⟩ := hSw
          (go_simp; all_goals with_reducible rfl)
        simp only [Act.put, List.setIfInBounds_toArray, List.set_cons_zero, List.set_cons_succ]
        refine held_take (i := 12) (v := ?_) (d := some 35) rfl rfl (by kernel_rfl) (by kernel_rfl) (by kernel_rfl) (fun _ _ _ h => h) (HM.out _ HBa.out) ⟨?_, fun w hSw => ?_⟩ ?_
        rotate_left 1
        · rfl
        · (go_simp; all_goals with_reducible rfl)
        simp only [Act.put, List.setIfInBounds_toArray, List.set_cons_zero, List.set_cons_succ]
        refine held_take (i := 13) (v := ?_) (d := some 36) rfl rfl (by kernel_rfl) (by kernel_rfl) (by kernel_rfl) (fun _ _ _ h => h) (HM.out _ HBa.out) ⟨?_, fun w hSw => ?_⟩ ?_
        rotate_left 1
        · rfl
        · (go_simp; all_goals with_reducible rfl)
        simp only [Act.put, List.setIfInBounds_toArray, List.set_cons_zero, List.set_cons_succ]
        refine held_take (i := 14) (v := ?_) (d := some 37) rfl rfl (by kernel_rfl) (by kernel_rfl) (by kernel_rfl) (fun _ _ _ h => h) (HM.out _ HBa.out) ⟨?_, fun w hSw => ?_⟩ ?_
        rotate_left 1
        · rfl
        · (go_simp; all_goals with_reducible rfl)
        simp only [Act.put, List.setIfInBounds_toArray, List.set_cons_zero, List.set_cons_succ]
        refine held_take (i := 15) (v := ?_) (d := some 38) rfl rfl (by kernel_rfl) (by kernel_rfl) (by kernel_rfl) (fun _ _ _ h => h) (HM.out _ HBa.out) ⟨?_, fun w hSw => ?_⟩ ?_
        rotate_left 1
        · rfl
        · obtain ⟨y0, y1, y2, y3⟩ := hSw
          (go_simp; all_goals with_reducible rfl)
        simp only [Act.put, List.setIfInBounds_toArray, List.set_cons_zero, List.set_cons_succ]
        refine held_take (i := 16) (v := ?_) (d := some 39) rfl rfl (by kernel_rfl) (by kernel_rfl) (by kernel_rfl) (fun _ _ _ h => h) (HM.out _ HBa.out) ⟨?_, fun w hSw => ?_⟩ ?_
        rotate_left 1
        · rfl
        · (go_simp; all_goals with_reducible rfl)
        simp only [Act.put, List.setIfInBounds_toArray, List.set_cons_zero, List.set_cons_succ]
        refine held_take (i := 17) (v := ?_) (d := some 40) rfl rfl (by kernel_rfl) (by kernel_rfl) (by kernel_rfl) (fun _ _ _ h => h) (HM.out _ HBa.out) ⟨?_, fun w hSw => ?_⟩ ?_
        rotate_left 1
        · rfl
        · obtain ⟨y0, y1, y2, y3⟩ := hSw
          (go_simp; all_goals with_reducible rfl)
        simp only [Act.put, List.setIfInBounds_toArray, List.set_cons_zero, List.set_cons_succ]
        refine held_take (i := 18) (v := ?_) (d := some 41) rfl rfl (by kernel_rfl) (by kernel_rfl) (by kernel_rfl) (fun _ _ _ h => h) (HM.out _ HBa.out) ⟨?_, fun w hSw => ?_⟩ ?_
        rotate_left 1
        · rfl
        · (go_simp; all_goals with_reducible rfl)
        simp only [Act.put, List.setIfInBounds_toArray, List.set_cons_zero, List.set_cons_succ]
        refine held_take (i := 19) (v := ?_) (d := some 42) rfl rfl (by kernel_rfl) (by kernel_rfl) (by kernel_rfl) (fun _ _ _ h => h) (HM.out _ HBa.out) ⟨?_, fun w hSw => ?_⟩ ?_
        rotate_left 1
        · rfl
        · (go_simp; all_goals with_reducible rfl)
        simp only [Act.put, List.setIfInBounds_toArray, List.set_cons_zero, List.set_cons_succ]
        refine held_take (i := 20) (v := ?_) (d := some 43) rfl rfl (by kernel_rfl) (by kernel_rfl) (by kernel_rfl) (fun _ _ _ h => h) (HM.out _ HBa.out) ⟨?_, fun w hSw => ?_⟩ ?_
        rotate_left 1
        · rfl
        · obtain ⟨y0, y1, y2, y3⟩ := hSw
          (go_simp; all_goals with_reducible rfl)
        simp only [Act.put, List.setIfInBounds_toArray, List.set_cons_zero, List.set_cons_succ]
        refine held_take (i := 21) (v := ?_) (d := some 44) rfl rfl (by kernel_rfl) (by kernel_rfl) (by kernel_rfl) (fun _ _ _ h => h) (HM.out _ HBa.out) ⟨?_, fun w hSw => ?_⟩ ?_
        rotate_left 1
        · rfl
        · (go_simp; all_goals with_reducible rfl)
        simp only [Act.put, List.setIfInBounds_toArray, List.set_cons_zero, List.set_cons_succ]
        refine held_take (i := 22) (v := ?_) (d := some 45) rfl rfl (by kernel_rfl) (by kernel_rfl) (by kernel_rfl) (fun _ _ _ h => h) (HM.out _ HBa.out) ⟨?_, fun w hSw => ?_⟩ ?_
        rotate_left 1
        · rfl
        · obtain ⟨y0, y1, y2, y3⟩ := hSw
          (go_simp; all_goals with_reducible rfl)
        simp only [Act.put, List.setIfInBounds_toArray, List.set_cons_zero, List.set_cons_succ]
        refine held_take (i := 23) (v := ?_) (d := some 46) rfl rfl (by kernel_rfl) (by kernel_rfl) (by kernel_rfl) (fun _ _ _ h => h) (HM.out _ HBa.out) ⟨?_, fun w hSw => ?_⟩ ?_
        rotate_left 1
        · rfl
        · (go_simp; all_goals with_reducible rfl)
        simp only [Act.put, List.setIfInBounds_toArray, List.set_cons_zero, List.set_cons_succ]
        refine held_take (i := 24) (v := ?_) (d := some 47) rfl rfl (by kernel_rfl) (by kernel_rfl) (by kernel_rfl) (fun _ _ _ h => h) (HM.out _ HBa.out) ⟨?_, fun w hSw => ?_⟩ ?_
        rotate_left 1
        · rfl
        · (go_simp; all_goals with_reducible rfl)
        simp only [Act.put, List.setIfInBounds_toArray, List.set_cons_zero, List.set_cons_succ]
        refine held_take (i := 25) (v := ?_) (d := some 48) rfl rfl (by kernel_rfl) (by kernel_rfl) (by kernel_rfl) (fun _ _ _ h => h) (HM.out _ HBa.out) ⟨?_, fun w hSw => ?_⟩ ?_
        rotate_left 1
        · rfl
        · (go_simp; all_goals with_reducible rfl)
        simp only [Act.put, List.setIfInBounds_toArray, List.set_cons_zero, List.set_cons_succ]
        refine held_step (i := 26) rfl (by kernel_rfl) ?_ (fun K hK => ?_)
        · rfl
        go_simp
        refine (chadd_any k B (N3 : Int) (N15 : Int) (ten ks) H S wa (by omega) HTS.out HW3.out HW15.out HSa.out.t).mono ?_
        rintro e w1x ⟨rfl, hk1, hT1⟩
        have HS1 := Lib.hid (HSa.out.snc (HZ.out _ HBa.out) hk1 hT1)
        have HB1 := Lib.hid (HBa.out.trans (HSa.out.below (HZ.out _ HBa.out) hk1))
        clear hk1 hT1
        refine hK _ _ (HM.out _ HB1.out) ?_
        clear hK K
        simp only [List.setIfInBounds_toArray, List.set_cons_zero, List.set_cons_succ]
        refine wpAnyH_done (by kernel_rfl) ?_ _
        (try go_wp2_with fail)
        go_roundw
        case rel => exact ⟨k + 1, by omega, by omega, by go_num, ⟨_, _, HS1.out⟩, HB1⟩
        case measure => simp [Go.RowKit.intOf]; omega
      · have hex : (k < n ∧ Hid (decide ((k : Int) < 30) = false)) ∨ (¬ k < n ∧ Hid True) := by
          rcases Nat.lt_or_ge k n with h | h
          · exact .inl ⟨h, decide_eq_false (by have : ¬ k < 30 := fun h2 => hlt ⟨h, h2⟩; omega)⟩
          · exact .inr ⟨by omega, trivial⟩
        clear hlt
        rcases hex with ⟨hlt, hd0⟩ | ⟨hlt, hd0⟩
        all_goals
          have hd1 := hd0.out
          clear hd0
          go_wp2_with fail
          go_meet
          exact ⟨rfl, ⟨k, S, H, hk2, hst.out⟩, hbel⟩
  case rest =>
    clear HS1 HB1
    obtain ⟨rfl, hst, hbel⟩ := hcut
    obtain ⟨k, S, H, hk2, hst⟩ := hst.out
    have hst := Lib.hid hst
    obtain ⟨N, hN, hA3⟩ := ch_and sq 3 3 (by decide) (by decide)
    have HWN := Lib.hid (wf_nat N (by omega))
    generalize wc = w2 at *
    go_upto_block 2 with fail
    clear hA3
    go_cut [1, 7] (fun s1 v wx => s1 = .int .i64 (N : Int) ∧ Hid (CSt B wx B S k H) ∧ Hid (∃ xs R, xs.length = 4 ∧ Bef B wx S R H v xs) ∧ Hid (Below B w wx))
    case first =>
      go_wp2_with fail
      go_loopw [7, 8] (fun v iv wr => ∃ j : Nat, j ≤ 4 ∧ iv = .int .i64 (j : Int) ∧ Hid (CSt B wr B S k H) ∧ Hid (∃ xs R, xs.length = j ∧ Bef B wr S R H v xs) ∧ Hid (Below B w wr)) (fun _ i _ => 4 - (Go.RowKit.intOf i).toNat)
      case atStart => exact ⟨0, Nat.zero_le _, rfl, hst, ⟨[], fun _ => False, rfl, SRow.nil, fun _ h => h.elim, fun _ h => absurd h (Nat.not_lt_zero _)⟩, hbel⟩
      case round =>
        clear hst hbel
        obtain ⟨j, hj, rfl, hst, hbf, hbel⟩ := hrel
        obtain ⟨xs, R, hxs, hbef⟩ := hbf.out
        have HXS := Lib.hid hxs
        have HBF := Lib.hid hbef
        generalize hv : u7 = v at *
        clear hbf hxs hbef hv
        by_cases hlt : j < 4
        · have hdj : decide ((j : Int) < 4) = true := decide_eq_true (by omega)
          go_wp2_with fail
          refine (chitems_any k B (j : Int) H S wr (by omega) (wf_nat j (by omega)) hst.out.t).mono ?_
          rintro e w3 ⟨g, c, rfl, hc1, hc2, hg1, hg2, harr, -, hb3⟩
          have HS3 := Lib.hid (hst.out.next hb3)
          have HB3 := Lib.hid (HM1.out _ _ hbel.out hb3)
          have HF3 := Lib.hid (HBF.out.next hb3)
          have HOK : Hid (BOk w3 S (fun k => R k ∧ k < wr.heap.size) H xs.length ⟨g, (H j).length, c⟩) := by
            show BOk _ _ _ _ _ _
            rw [HXS.out]
            exact ⟨rfl, hc1, hc2, hg2, fun h => Nat.lt_irrefl _ (Nat.lt_of_lt_of_le (show g < wr.heap.size from (hst.out.s _ h).2) hg1), fun h => Nat.lt_irrefl _ (Nat.lt_of_lt_of_le (show g < wr.heap.size from h.2) hg1), ItAt.of harr⟩
          generalize (fun k => R k ∧ k < wr.heap.size) = R3 at *
          clear hc1 hc2 hg1 hg2 harr hb3 hst hbel HBF
          have HX4 := Lib.hid (heap_alloc_new w3 (.cells #[.slice (some ⟨g, 0, none⟩) (H j).length c] 34))
          have HL4 : Hid (Below w3.heap.size w3 (w3.alloc (.cells #[.slice (some ⟨g, 0, none⟩) (H j).length c] 34))) := (Below.refl _ _).alloc (Nat.le_refl _) _
          have HS4 := Lib.hid (HS3.out.next HL4.out)
          have HB4 := Lib.hid (HM1.out _ _ HB3.out HL4.out)
          have HF4 := Lib.hid (HF3.out.next HL4.out)
          have HN7 : Hid (xs.length ≤ 1000000) := by show _ ≤ _; rw [HXS.out]; omega
          have HN8 : Hid ((xs.length + 1) * 24 ≤ 140737488355328) := by show _ ≤ _; rw [HXS.out]; omega
          have HOK4 : Hid (BOk (w3.alloc (.cells #[.slice (some ⟨g, 0, none⟩) (H j).length c] 34)) S (fun k => R3 k ∧ k < w3.heap.size) H xs.length ⟨g, (H j).length, c⟩) := by
            obtain ⟨a1, a2, a3, a4, a5, a6, a7⟩ := HOK.out.kept (Kept.of_new HL4.out : Kept (fun _ => False) _ _) fun _ _ _ _ h => h
            exact ⟨a1, a2, a3, a4, a5, fun h => a6 h.1, a7⟩
          clear HOK HF3 HS3 HB3 HL4
          go_wp2_with (at_builtin; refine append_one (Sh := slS) (by rfl) (.tmp 56) (.tmp 60) 47 rfl Try.underlying47 info_items rfl v xs.length xs rfl HF4.out.row w3.heap.size 1 ⟨g, (H j).length, c⟩ rfl HX4.out HN7.out HN8.out ?_; intro v5 w5 hr5 hk5; have HF5 := Lib.hid (HF4.out.push (fun k hk => (HS4.out.s k hk).2) (HZ.out _ HB4.out) HOK4.out hr5 hk5); have HS5 := Lib.hid (HS4.out.far hk5 fun k hs hr => (HF4.out.r k hr (HS4.out.s k hs).2).2 hs); have HB5 := Lib.hid (HB4.out.trans (hk5.below (HZ.out _ HB4.out) (B := B) fun k hr => (HF4.out.r k hr (Nat.lt_of_lt_of_le hr.2 (by simp))).1)); clear hr5 hk5)
          go_roundw
          case rel => exact ⟨j + 1, by omega, by go_num, HS5, ⟨_, _, by rw [List.length_append, HXS.out]; rfl, HF5.out⟩, HB5⟩
          case measure => simp [Go.RowKit.intOf]; omega
        · have hj4 : j = 4 := by omega
          have hdj : decide ((j : Int) < 4) = false := decide_eq_false (by omega)
          go_wp2_with fail
          go_meet
          exact ⟨rfl, hst, ⟨xs, R, by rw [HXS.out, hj4], HBF.out⟩, hbel⟩
    case rest =>
      clear hst hbel
      obtain ⟨rfl, hst, hbf, hbel⟩ := hcut
      obtain ⟨xs, R, hxs, hbef⟩ := hbf.out
      have HXS := Lib.hid hxs
      have HBF := Lib.hid hbef
      generalize wc = w3 at *
      generalize hv : u7 = v at *
      clear hbf hxs hbef hv
      go_wp2_with fail
      refine (chdrop_any k B (N : Int) H S w3 (by omega) HWN.out hst.out.t).mono ?_
      rintro e w4 ⟨g, c, rfl, -, -, -, -, -, hk4, hT4⟩
      have HS4 := Lib.hid (hst.out.same hk4 hT4)
      have HB4 := Lib.hid (hbel.out.trans (hst.out.below (HZ.out _ hbel.out) hk4))
      have HF4 := Lib.hid (HBF.out.kept hk4 fun _ _ h => h)
      generalize (fun k => R k ∧ k < w3.heap.size) = R4 at *
      clear hk4 hT4 hst hbel HBF
      have HSAME : Hid (∀ j : Nat, 0 < (Ch.drop H (N : Int) (j : Int)).length → Ch.drop H (N : Int) (j : Int) = H (j : Int)) := fun j hj => by
        unfold Ch.drop at hj ⊢
        split
        · rename_i e; rw [if_pos e] at hj; exact absurd hj (Nat.lt_irrefl _)
        · rfl
      go_wp2_with fail
      go_loopw [9] (fun iv wr => ∃ j : Nat, j ≤ 4 ∧ iv = .int .i64 (j : Int) ∧ Hid (CSt B wr B S k (Ch.drop H (N : Int))) ∧ Hid (∃ R, Bef B wr S R H v xs) ∧ Hid (Below B w wr)) (fun i _ => 4 - (Go.RowKit.intOf i).toNat)
      case atStart => exact ⟨0, Nat.zero_le _, rfl, HS4, ⟨_, HF4.out⟩, HB4⟩
      case round =>
        clear HS4 HF4 HB4
        obtain ⟨j, hj, rfl, hst, hbf, hbel⟩ := hrel
        obtain ⟨R5, hbef⟩ := hbf.out
        have HBF := Lib.hid hbef
        clear hbf hbef
        by_cases hlt : j < 4
        · have hdj : decide ((j : Int) < 4) = true := decide_eq_true (by omega)
          go_wp2_with fail
          refine (chitems_any k B (j : Int) (Ch.drop H (N : Int)) S wr (by omega) (wf_nat j (by omega)) hst.out.t).mono ?_
          rintro e w5 ⟨g5, c5, rfl, hc1, hc2, hg1, hg2, harr, -, hb5⟩
          have HS5 := Lib.hid (hst.out.next hb5)
          have HB5 := Lib.hid (HM1.out _ _ hbel.out hb5)
          have HF5 := Lib.hid (HBF.out.next hb5)
          have HIT := Lib.hid (ItAt.of harr)
          obtain ⟨⟨gj, nj, cj⟩, HP⟩ : ∃ p, Hid (xs.getD j slS.z = p) := ⟨_, rfl⟩
          have hok := HF5.out.each j (by rw [HXS.out]; exact hlt)
          rw [HP.out] at hok
          obtain ⟨(a1 : nj = _), (a2 : nj ≤ cj), (a3 : cj ≤ maxLen), -, -, -, a7⟩ := hok
          have HOJ := Lib.hid a7
          obtain ⟨Av, cv, hvv, hslv, hav⟩ := ARow.open_ (S := slS) HF5.out.row.1
          obtain ⟨adv, rfl⟩ := hav.some (k := j) (by rw [HXS.out]; exact hlt)
          have cb := sls_at hav j (by rw [HXS.out]; exact hlt) _ HP.out
          rw [HXS.out] at hvv
          obtain ⟨m, hm⟩ : ∃ m, (Ch.drop H (N : Int) (j : Int)).length = m := ⟨_, rfl⟩
          have hmk : m ≤ 30 := by have := HS5.out.t.good.le (j : Int); rw [hm] at this; omega
          rw [hm] at hc1
          rw [hm]
          have hm0 : 0 < m → Ch.drop H (N : Int) (j : Int) = H (j : Int) := fun h => HSAME.out j (by rw [hm]; exact h)
          have hmn : 0 < m → nj = m := fun h => by rw [a1, ← hm0 h, hm]
          subst hvv
          simp only at cb
          have HA1 := Lib.hid a1
          clear hav harr a1 a7 hb5 hst hbel HBF hg1 hg2
          go_upto_region 17 with fail
          go_cut [10, 94] (fun s10 s94 wx => s10 = .slice (some ⟨g5, 0, none⟩) m c5 ∧ s94 = .bool false ∧ w5 = wx)
          case first =>
            by_cases hjn : j = N
            · subst hjn
              obtain rfl : m = 0 := by
                rw [← hm]
                unfold Ch.drop
                rw [if_pos rfl]
                rfl
              have hjj : ((j : Int) == (j : Int)) = true := beq_self_eq_true _
              have hjj2 : ((j : Int) != (j : Int)) = false := by simp
              clear hm0 hmn hm
              go_wp2_with fail
              go_meet
              exact ⟨rfl, rfl, rfl⟩
            · have hjj : ((j : Int) == (N : Int)) = false := by rw [beq_eq_false_iff_ne]; omega
              have hjj2 : ((j : Int) != (N : Int)) = true := by rw [bne_iff_ne]; omega
              obtain rfl : nj = m := by
                rw [HA1.out, ← hm]
                unfold Ch.drop
                rw [if_neg (by omega)]
              have hmm : ((nj : Int) != (nj : Int)) = false := by simp
              clear hm0 hmn hm
              go_wp2_with fail
              go_meet
              exact ⟨rfl, rfl, rfl⟩
          case rest =>
            obtain ⟨rfl, rfl, rfl⟩ := hcut
            go_wp2_with fail
            go_loopw [97] (fun iv wx => ∃ i : Nat, i ≤ m ∧ iv = .int .i64 (i : Int) ∧ Hid (∃ N', wx = w5.drewN N')) (fun i _ => m - (Go.RowKit.intOf i).toNat)
            case atStart => exact ⟨0, Nat.zero_le _, rfl, 0, rfl⟩
            case round =>
              obtain ⟨i, hi, rfl, hdr⟩ := hrel
              obtain ⟨N', rfl⟩ := hdr.out
              by_cases hil : i < m
              · have hpos : 0 < m := by omega
                have h1 := HIT.out i (by rw [hm]; exact hil)
                have h2 := HOJ.out i (by rw [← hm0 hpos, hm]; exact hil)
                rw [hm0 hpos] at h1
                obtain ⟨⟨o, kk⟩, hp⟩ : ∃ p, (H (j : Int)).getD i Ch.It0 = p := ⟨_, rfl⟩
                rw [hp] at h1 h2
                obtain ⟨(x0 : (w5.drewN N').cell? ⟨g5, i * 2, none⟩ = some (.int .i64 o)), (x1 : (w5.drewN N').cell? ⟨g5, i * 2 + 1, none⟩ = some (.string kk))⟩ := h1
                obtain ⟨(y0 : (w5.drewN N').cell? ⟨gj, i * 2, none⟩ = some (.int .i64 o)), (y1 : (w5.drewN N').cell? ⟨gj, i * 2 + 1, none⟩ = some (.string kk))⟩ := h2
                have cb' : (w5.drewN N').cell? (adv.add j) = some (.slice (some ⟨gj, 0, none⟩) m cj) := by rw [← hmn hpos]; exact cb
                have hmc : m ≤ cj := by rw [← hmn hpos]; exact a2
                have HW : ∀ N2, Hid (∃ M, (w5.drewN N').drewN N2 = w5.drewN M) := fun N2 => ⟨N' + N2, by simp [World.drewN, Nat.add_assoc]⟩
                have hq := fun W => item_self W o kk
                clear hp cb hm0 hmn hm hpos hdr
                generalize w5.drewN N' = wa at *
                go_upto_region 22 with fail
                go_quiet (fail)
                go_wp2_with fail
                go_roundw
                case rel => exact ⟨i + 1, by omega, by go_num, HW _⟩
                case measure => simp [Go.RowKit.intOf]; omega
              · obtain rfl : i = m := by omega
                have HB9 : Hid (Below B w (w5.drewN N')) := ⟨HB5.out.os, HB5.out.tape, HB5.out.output, HB5.out.size, HB5.out.block⟩
                have HS9 : Hid (CSt B (w5.drewN N') B S k (Ch.drop H (N : Int))) := HS5.out.next (below_drewN w5 N')
                have HF9 := Lib.hid (HF5.out.next (below_drewN w5 N'))
                clear hil
                go_wp2_with fail
                go_roundw
                case rel => exact ⟨j + 1, by omega, by go_num, HS9, ⟨_, HF9.out⟩, HB9⟩
                case measure => simp [Go.RowKit.intOf]; omega
        · have hj4 : j = 4 := by omega
          have hdj : decide ((j : Int) < 4) = false := decide_eq_false (by omega)
          go_wp2_with fail
          refine (chawake_any wr).mono ?_
          rintro e w6 ⟨rfl, hb6⟩
          have HB6 := Lib.hid (HM1.out _ _ hbel.out hb6)
          clear hb6 hbel
          go_wp2_with fail
          go_ret
          exact ⟨rfl, HB6.out⟩
end Go.Proofs.Ytlhjofcpcccdpaa
