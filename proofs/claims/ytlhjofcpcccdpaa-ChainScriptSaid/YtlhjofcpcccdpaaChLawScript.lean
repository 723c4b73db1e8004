/-
  The walk of the statement on calls beside a list of items.
-/
import Derived.Test.YtlhjofcpcccdpaaChScript
set_option maxRecDepth 100000
namespace Go.Proofs.Ytlhjofcpcccdpaa
open Go.RowKit Go.Maps
set_option maxHeartbeats 8000000 in
theorem chainscript_any (A : Option Addr) (n cap : Nat) (l : List COp) (w : World) (hs : SlIs A n cap) (hl : Hid (l.length = n)) (hb : Hid (Arr copS w 0 w.heap.size A l)) :
    Calls Try.prog 3 #[.slice A n cap] w fun e w' => e = .returned (.bool true) ∧ Below w.heap.size w w' := by
  have hcap := hs.2.2
  have hnc := hs.2.1
  obtain ⟨B, hB⟩ : ∃ B, w.heap.size = B := ⟨_, rfl⟩
  obtain ⟨q, hq⟩ : ∃ q, w.heap.size = q := ⟨_, rfl⟩
  have CN := chnew_any 0 w
  have HBQ : Hid (B = q) := hB.symm.trans hq
  rw [hB] at hb
  have HB := Lib.hid hB
  have CN : Hid (Calls Try.prog 6 #[] w fun e w' => e = .returned (.pointer (some ⟨q, 0, none⟩)) ∧ Below B w w' ∧ Chn 0 w' (fun k => k = q) q (fun _ => [])) := by
    rw [← hB, ← hq]
    rw [hq]
    rw [hq] at CN
    exact CN
  rw [hB]
  clear hB hq
  have HZ : Hid (∀ W, Below B w W → B ≤ W.heap.size) := fun W h => HB.out ▸ h.size
  have HM1 : Hid (∀ W W', Below B w W → Below W.heap.size W W' → Below B w W') := fun W W' h h' => h.trans (h'.mono (HZ.out W h))
  go_enter Try.func3, Try.ntmps3
  go_wp2_with fail
  refine CN.out.mono ?_
  rintro e w1 ⟨rfl, hb1, hT1⟩
  have HL2 : Hid (Below w1.heap.size w1 (w1.alloc (.cells #[.slice none 0 0] 28))) := (Below.refl _ _).alloc (Nat.le_refl _) _
  have HX2 := Lib.hid (heap_alloc_new w1 (.cells #[.slice none 0 0] 28))
  have HB2 := Lib.hid (HM1.out _ _ hb1 HL2.out)
  have HS2 : Hid (XSt B (w1.alloc (.cells #[.slice none 0 0] 28)) q w1.heap.size (fun k => k = q) (fun k => k = w1.heap.size) 0 (fun _ => []) []) :=
    ⟨⟨fun k h => ⟨by have := HBQ.out; omega, by rw [h]; exact Nat.lt_of_lt_of_le hT1.lt HL2.out.size⟩, hT1.next HL2.out⟩, fun k h => ⟨by rw [h]; exact HZ.out _ hb1, by rw [h]; exact (Array.getElem?_eq_some_iff.1 HX2.out).1⟩, fun k h h' => by have := hT1.lt; omega, ⟨_, rfl, HX2.out, SRow.nil⟩⟩
  clear hb1 hT1 HL2 HX2 CN
  go_upto_region 2 with fail
  generalize w1.alloc (.cells #[.slice none 0 0] 28) = w2 at *
  generalize w1.heap.size = m at *
  go_wp2_with fail
  go_loopw [5] (fun iv wr => ∃ k : Nat, k ≤ n ∧ k ≤ 40 ∧ iv = .int .i64 (k : Int) ∧ Hid (∃ S R H L, XSt B wr q m S R k H L ∧ Ch.Ag H L ∧ L.length ≤ k) ∧ Hid (Below B w wr)) (fun i _ => n - (Go.RowKit.intOf i).toNat)
  case atStart => exact ⟨0, Nat.zero_le _, Nat.zero_le _, rfl, ⟨_, _, _, [], HS2.out, Ch.Ag.new, Nat.le_refl _⟩, HB2⟩
  case round =>
    clear HS2 HB2
    obtain ⟨k, hk, hk2, rfl, hstt, hbel⟩ := hrel
    obtain ⟨S, R, H, L, hst, hag, hle⟩ := hstt.out
    have hst := Lib.hid hst
    have HAG := Lib.hid hag
    clear hstt hag
    by_cases hlt : k < n ∧ k < 40
    · obtain ⟨hlt, hlt2⟩ := hlt
      have hd0 : decide ((k : Int) < 40) = true := decide_eq_true (by omega)
      obtain ⟨ad, rfl⟩ := hb.out.some (k := k) (by rw [hl.out]; exact hlt)
      obtain ⟨p, hp⟩ : ∃ p, l.getD k copS.z = p := ⟨_, rfl⟩
      obtain ⟨m0, m1, m2, m3⟩ := cops_at (hb.out.below hbel.out (Nat.le_refl _)) k (by rw [hl.out]; exact hlt) _ hp
      obtain ⟨i, hi⟩ : ∃ i, i = min p.k.size 10 := ⟨_, rfl⟩
      have hmi : min (p.k.size : Int) 10 = (i : Int) := by omega
      have hmi2 : (if (10 : Int) < (p.k.size : Int) then (10 : Int) else (p.k.size : Int)) = (i : Int) := by split <;> omega
      have hm1 : i ≤ p.k.size := by omega
      have hcut : p.k.extract 0 i = ten p.k := by rw [hi]; rfl
      have HTS := Lib.hid (ten_size p.k)
      obtain ⟨kd, sq, of, ks, h1, h2⟩ := p
      simp only at m0 m1 m2 m3 hmi hmi2 hm1 hcut HTS
      have HW1 := Lib.hid h1
      have HW2 := Lib.hid h2
      clear hp h1 h2 hi
      go_upto_region 6 with fail
      clear m0 m1 m2 m3
      have HL1 : Hid (Below wr.heap.size wr (wr.alloc (.cells #[.int .i64 kd, .int .i64 sq, .int .i64 of, .string ks] 30))) := (Below.refl _ _).alloc (Nat.le_refl _) _
      have HX1 := Lib.hid (heap_alloc_new wr (.cells #[.int .i64 kd, .int .i64 sq, .int .i64 of, .string ks] 30))
      obtain ⟨ob, hob⟩ : ∃ ob, wr.heap.size = ob := ⟨_, rfl⟩
      rw [hob] at HX1 HL1
      have HOBS : Hid (¬ S ob ∧ ¬ R ob) := ⟨fun h => by have := (hst.out.s.s _ h).2; omega, fun h => by have := (hst.out.r _ h).2; omega⟩
      have HOB := Lib.hid hob
      rw [hob]
      generalize wr.alloc (.cells #[.int .i64 kd, .int .i64 sq, .int .i64 of, .string ks] 30) = w1 at *
      clear hob
      obtain ⟨x0, x1, x2, x3⟩ := four_cells_at HX1.out
      have f3 : w1.frozen? ⟨ob, 3, none⟩ = false := frozen_of_row w1 ob _ _ _ HX1.out
      go_upto_region 7 with fail
      clear x0 x1 x2 x3 f3 hmi hmi2 hm1 hcut
      have HX2 : Hid ((w1.setCell ⟨ob, 3, none⟩ (.string (ten ks))).heap[ob]? = some (.cells #[.int .i64 kd, .int .i64 sq, .int .i64 of, .string (ten ks)] 30 (0, 0))) := set_at (cs := [.int .i64 kd, .int .i64 sq, .int .i64 of, .string ks]) HX1.out 3 _
      have HL2 : Hid (Below wr.heap.size wr (w1.setCell ⟨ob, 3, none⟩ (.string (ten ks)))) := by
        have h2 : Kept (fun j => j = ob) w1 (w1.setCell ⟨ob, 3, none⟩ (.string (ten ks))) := Kept.setCell _ ⟨ob, 3, none⟩ _ rfl
        show Below _ _ _
        rw [HOB.out]
        exact HL1.out.trans (h2.below (by have := HOB.out; have := HL1.out.size; omega) fun j e => Nat.le_of_eq e.symm)
      generalize ten ks = ky at *
      generalize w1.setCell ⟨ob, 3, none⟩ (.string ky) = w2 at *
      have HO2 : Hid (XOb w2 S R ob (.cells #[.int .i64 kd, .int .i64 sq, .int .i64 of, .string ky] 30 (0, 0))) := ⟨HX2.out, HOBS.out⟩
      have HS2 := Lib.hid (hst.out.next HL2.out)
      have HB2 := Lib.hid (HM1.out _ _ hbel.out HL2.out)
      clear HL1 HX1 HL2 HX2 HOB HOBS hst hbel
      obtain ⟨x0, x1, x2, x3⟩ := four_cells_at HO2.out.1
      go_upto_block 2 with fail
      clear x0 x1 x2 x3
      go_cut [3] (fun s3 wx => s3 = .pointer (some ⟨q, 0, none⟩) ∧ Hid (∃ S R H L, XSt B wx q m S R (k + 1) H L ∧ Ch.Ag H L ∧ L.length ≤ k + 1 ∧ XOb wx S R ob (.cells #[.int .i64 kd, .int .i64 sq, .int .i64 of, .string ky] 30 (0, 0))) ∧ Hid (Below B w wx))
      case first =>
        obtain ⟨x0, x1, x2, x3⟩ := four_cells_at HO2.out.1
        have HZ2 := Lib.hid (HZ.out _ HB2.out)
        rcases (show kd = 0 ∨ kd = 1 ∨ (kd ≠ 0 ∧ kd ≠ 1) by omega) with h0 | h0 | ⟨h0, h1⟩
        · subst h0
          go_wp2_with fail
          refine (chadd_any k q sq of ky H S w2 (by omega) HTS.out HW1.out HW2.out HS2.out.s.t).mono ?_
          rintro e w3 ⟨rfl, hk3, hT3⟩
          have HS3 := Lib.hid (HS2.out.add HZ2.out hk3 hT3)
          have HB3 := Lib.hid (HB2.out.trans (HS2.out.belowS HZ2.out hk3))
          have HO3 := Lib.hid (HO2.out.add hk3)
          generalize Snc S w2 w3 = S3 at *
          clear hk3 hT3 HS2 HB2 HO2 HZ2 x0 x1 x2 x3
          obtain ⟨x0, x1, x2, x3⟩ := four_cells_at HO3.out.1
          go_wp2_with fail
          refine (refadd_any m sq of ky L R w3 (by omega) HAG.out.srt HS3.out.f).mono ?_
          rintro e w4 ⟨rfl, hk4, L4, hf4, hs4, hm4, hl4⟩
          have HS4 := Lib.hid (HS3.out.ref (HZ.out _ HB3.out) hk4 hf4)
          have HB4 := Lib.hid (HB3.out.trans (HS3.out.belowR (HZ.out _ HB3.out) hk4))
          have HO4 := Lib.hid (HO3.out.ref hk4)
          have HA4 := Lib.hid (HAG.out.add hs4 hm4)
          clear hk4 hf4 hs4 hm4 HS3 HB3 HO3 x0 x1 x2 x3
          go_wp2_with fail
          go_meet
          exact ⟨rfl, ⟨_, _, _, L4, HS4.out, HA4.out, by omega, HO4.out⟩, HB4⟩
        · subst h0
          have HDR : Hid (Below w2.heap.size w2 w2.drew) := ⟨rfl, rfl, rfl, Nat.le_refl _, fun _ _ => rfl⟩
          have HSa := Lib.hid (HS2.out.next HDR.out)
          have HBa := Lib.hid (HM1.out _ _ HB2.out HDR.out)
          have HOa := Lib.hid (HO2.out.next HDR.out)
          clear HDR
          clear HS2 HB2 HO2 HZ2
          go_upto_region 19 with fail
          clear x0 x1 x2 x3
          refine wp_region_held_drew (S := fun W => W.cell? ⟨ob, 1, none⟩ = some (.int .i64 sq) ∧ W.cell? ⟨ob, 2, none⟩ = some (.int .i64 of)) (by kernel_rfl) ((have h := four_cells_at HOa.out.1; ⟨h.2.1, h.2.2.1⟩)) (fun hH => ?_)
          change wpAnyH _ _ _ _ _ 13 #[false, false, false, false, false, false, false, false, false, false, false, false, false] _ _
          clear hH
          generalize w2.drew = wa at *
          refine held_take (i := 0) (v := ?_) (d := some 82) rfl rfl (by kernel_rfl) (by kernel_rfl) (by kernel_rfl) (fun _ _ _ h => h) ((have h := four_cells_at HOa.out.1; ⟨h.2.1, h.2.2.1⟩)) ⟨?_, fun w hSw => ?_⟩ ?_
          rotate_left 1
          · rfl
          · (go_simp; all_goals with_reducible rfl)
          simp only [Act.put, List.setIfInBounds_toArray, List.set_cons_zero, List.set_cons_succ]
          refine held_take (i := 1) (v := ?_) (d := some 83) rfl rfl (by kernel_rfl) (by kernel_rfl) (by kernel_rfl) (fun _ _ _ h => h) ((have h := four_cells_at HOa.out.1; ⟨h.2.1, h.2.2.1⟩)) ⟨?_, fun w hSw => ?_⟩ ?_
          rotate_left 1
          · rfl
          · (go_simp; all_goals with_reducible rfl)
          simp only [Act.put, List.setIfInBounds_toArray, List.set_cons_zero, List.set_cons_succ]
          refine held_take (i := 2) (v := ?_) (d := some 84) rfl rfl (by kernel_rfl) (by kernel_rfl) (by kernel_rfl) (fun _ _ _ h => h) ((have h := four_cells_at HOa.out.1; ⟨h.2.1, h.2.2.1⟩)) ⟨?_, fun w hSw => ?_⟩ ?_
          rotate_left 1
          · rfl
          · obtain ⟨y1, y2⟩ := hSw
            (go_simp; all_goals with_reducible rfl)
          simp only [Act.put, List.setIfInBounds_toArray, List.set_cons_zero, List.set_cons_succ]
          refine held_take (i := 3) (v := ?_) (d := some 85) rfl rfl (by kernel_rfl) (by kernel_rfl) (by kernel_rfl) (fun _ _ _ h => h) ((have h := four_cells_at HOa.out.1; ⟨h.2.1, h.2.2.1⟩)) ⟨?_, fun w hSw => ?_⟩ ?_
          rotate_left 1
          · rfl
          · (go_simp; all_goals with_reducible rfl)
          simp only [Act.put, List.setIfInBounds_toArray, List.set_cons_zero, List.set_cons_succ]
          refine held_take (i := 4) (v := ?_) (d := some 86) rfl rfl (by kernel_rfl) (by kernel_rfl) (by kernel_rfl) (fun _ _ _ h => h) ((have h := four_cells_at HOa.out.1; ⟨h.2.1, h.2.2.1⟩)) ⟨?_, fun w hSw => ?_⟩ ?_
          rotate_left 1
          · rfl
          · obtain ⟨y1, y2⟩ := hSw
            (go_simp; all_goals with_reducible rfl)
          simp only [Act.put, List.setIfInBounds_toArray, List.set_cons_zero, List.set_cons_succ]
          refine held_take (i := 6) (v := ?_) (d := some 88) rfl rfl (by kernel_rfl) (by kernel_rfl) (by kernel_rfl) (fun _ _ _ h => h) ((have h := four_cells_at HOa.out.1; ⟨h.2.1, h.2.2.1⟩)) ⟨?_, fun w hSw => ?_⟩ ?_
          rotate_left 1
          · rfl
          · (go_simp; all_goals with_reducible rfl)
          simp only [Act.put, List.setIfInBounds_toArray, List.set_cons_zero, List.set_cons_succ]
          refine held_take (i := 7) (v := ?_) (d := some 89) rfl rfl (by kernel_rfl) (by kernel_rfl) (by kernel_rfl) (fun _ _ _ h => h) ((have h := four_cells_at HOa.out.1; ⟨h.2.1, h.2.2.1⟩)) ⟨?_, fun w hSw => ?_⟩ ?_
          rotate_left 1
          · rfl
          · (go_simp; all_goals with_reducible rfl)
          simp only [Act.put, List.setIfInBounds_toArray, List.set_cons_zero, List.set_cons_succ]
          refine held_take (i := 8) (v := ?_) (d := some 90) rfl rfl (by kernel_rfl) (by kernel_rfl) (by kernel_rfl) (fun _ _ _ h => h) ((have h := four_cells_at HOa.out.1; ⟨h.2.1, h.2.2.1⟩)) ⟨?_, fun w hSw => ?_⟩ ?_
          rotate_left 1
          · rfl
          · obtain ⟨y1, y2⟩ := hSw
            (go_simp; all_goals with_reducible rfl)
          simp only [Act.put, List.setIfInBounds_toArray, List.set_cons_zero, List.set_cons_succ]
          refine held_take (i := 9) (v := ?_) (d := some 91) rfl rfl (by kernel_rfl) (by kernel_rfl) (by kernel_rfl) (fun _ _ _ h => h) ((have h := four_cells_at HOa.out.1; ⟨h.2.1, h.2.2.1⟩)) ⟨?_, fun w hSw => ?_⟩ ?_
          rotate_left 1
          · rfl
          · (go_simp; all_goals with_reducible rfl)
          simp only [Act.put, List.setIfInBounds_toArray, List.set_cons_zero, List.set_cons_succ]
          refine held_take (i := 10) (v := ?_) (d := some 92) rfl rfl (by kernel_rfl) (by kernel_rfl) (by kernel_rfl) (fun _ _ _ h => h) ((have h := four_cells_at HOa.out.1; ⟨h.2.1, h.2.2.1⟩)) ⟨?_, fun w hSw => ?_⟩ ?_
          rotate_left 1
          · rfl
          · obtain ⟨y1, y2⟩ := hSw
            (go_simp; all_goals with_reducible rfl)
          simp only [Act.put, List.setIfInBounds_toArray, List.set_cons_zero, List.set_cons_succ]
          refine held_step (i := 5) rfl (by kernel_rfl) ?_ (fun K hK => ?_)
          · rfl
          go_simp
          refine (chrem_any k q sq of H S wa HW1.out HW2.out HSa.out.s.t).mono ?_
          rintro e w1x ⟨y, rfl, hk1, hT1, hy1⟩
          have HS1 := Lib.hid (HSa.out.same hk1 hT1)
          have HB1 := Lib.hid (HBa.out.trans (HSa.out.belowS (HZ.out _ HBa.out) hk1))
          have HO1 := Lib.hid (HOa.out.same hk1)
          have HY := Lib.hid hy1
          clear hk1 hT1 hy1
          refine hK _ _ ((have h := four_cells_at HO1.out.1; ⟨h.2.1, h.2.2.1⟩)) ?_
          clear hK K
          simp only [List.setIfInBounds_toArray, List.set_cons_zero, List.set_cons_succ]
          refine held_step (i := 11) rfl (by kernel_rfl) ?_ (fun K hK => ?_)
          · rfl
          go_simp
          refine (refrem_any m sq of L R w1x (by omega) HAG.out.srt HS1.out.f).mono ?_
          rintro e w2x ⟨y2, L2, rfl, hk2, hf2, hs2, hm2, hl2, hy2⟩
          have hyy : y2 = y := by
            have h1 := HY.out
            have h2 := hy2
            have h3 : (∃ k, (of, k) ∈ H sq) ↔ ∃ k, Ch.Ent.mk sq of k ∈ L := exists_congr fun k => HAG.out.mem sq of k
            rw [Bool.eq_iff_iff, h1, h2, h3]
          subst hyy
          have HS2 := Lib.hid (HS1.out.ref (HZ.out _ HB1.out) hk2 hf2)
          have HB2 := Lib.hid (HB1.out.trans (HS1.out.belowR (HZ.out _ HB1.out) hk2))
          have HO2 := Lib.hid (HO1.out.ref hk2)
          have HA2 := Lib.hid (HAG.out.rem hs2 hm2)
          have HLE2 : Hid (L2.length ≤ k + 1) := Nat.le_succ_of_le (Nat.le_trans hl2 hle)
          clear hk2 hf2 hs2 hm2 hl2 hy2 HY
          refine hK _ _ ((have h := four_cells_at HO2.out.1; ⟨h.2.1, h.2.2.1⟩)) ?_
          clear hK K
          simp only [List.setIfInBounds_toArray, List.set_cons_zero, List.set_cons_succ]
          refine held_take (i := 12) (v := ?_) (d := some 94) rfl rfl (by kernel_rfl) (by kernel_rfl) (by kernel_rfl) (fun _ _ _ h => h) ((have h := four_cells_at HO2.out.1; ⟨h.2.1, h.2.2.1⟩)) ⟨?_, fun w hSw => ?_⟩ ?_
          rotate_left 1
          · rfl
          · (go_simp; all_goals with_reducible rfl)
          simp only [Act.put, List.setIfInBounds_toArray, List.set_cons_zero, List.set_cons_succ]
          refine wpAnyH_done (by kernel_rfl) ?_ _
          have hne : (y2 != y2) = false := by simp
          go_wp2_with fail
          go_meet
          exact ⟨rfl, ⟨_, _, _, L2, HS2.out.more, HA2.out, HLE2.out, HO2.out⟩, HB2⟩
        · have hb0 : (kd == 0) = false := beq_eq_false_iff_ne.2 h0
          have hb1 : (kd == 1) = false := beq_eq_false_iff_ne.2 h1
          clear h0 h1
          have HGL : Hid (∀ x, (H x).length ≤ k) := HS2.out.s.t.good.le
          have HDR : Hid (Below w2.heap.size w2 w2.drew) := ⟨rfl, rfl, rfl, Nat.le_refl _, fun _ _ => rfl⟩
          have HSa := Lib.hid (HS2.out.next HDR.out)
          have HBa := Lib.hid (HM1.out _ _ HB2.out HDR.out)
          have HOa := Lib.hid (HO2.out.next HDR.out)
          clear HDR
          clear HS2 HB2 HO2 HZ2
          go_upto_region 8 with fail
          clear x0 x1 x2 x3
          refine wp_region_held_drew (S := fun W => W.cell? ⟨ob, 1, none⟩ = some (.int .i64 sq) ∧ W.cell? ⟨ob, 2, none⟩ = some (.int .i64 of)) (by kernel_rfl) ((have h := four_cells_at HOa.out.1; ⟨h.2.1, h.2.2.1⟩)) (fun hH => ?_)
          change wpAnyH _ _ _ _ _ 10 #[false, false, false, false, false, false, false, false, false, false] _ _
          clear hH
          generalize w2.drew = wa at *
          refine held_take (i := 0) (v := ?_) (d := some 36) rfl rfl (by kernel_rfl) (by kernel_rfl) (by kernel_rfl) (fun _ _ _ h => h) ((have h := four_cells_at HOa.out.1; ⟨h.2.1, h.2.2.1⟩)) ⟨?_, fun w hSw => ?_⟩ ?_
          rotate_left 1
          · rfl
          · (go_simp; all_goals with_reducible rfl)
          simp only [Act.put, List.setIfInBounds_toArray, List.set_cons_zero, List.set_cons_succ]
          refine held_take (i := 1) (v := ?_) (d := some 37) rfl rfl (by kernel_rfl) (by kernel_rfl) (by kernel_rfl) (fun _ _ _ h => h) ((have h := four_cells_at HOa.out.1; ⟨h.2.1, h.2.2.1⟩)) ⟨?_, fun w hSw => ?_⟩ ?_
          rotate_left 1
          · rfl
          · (go_simp; all_goals with_reducible rfl)
          simp only [Act.put, List.setIfInBounds_toArray, List.set_cons_zero, List.set_cons_succ]
          refine held_take (i := 2) (v := ?_) (d := some 38) rfl rfl (by kernel_rfl) (by kernel_rfl) (by kernel_rfl) (fun _ _ _ h => h) ((have h := four_cells_at HOa.out.1; ⟨h.2.1, h.2.2.1⟩)) ⟨?_, fun w hSw => ?_⟩ ?_
          rotate_left 1
          · rfl
          · obtain ⟨y1, y2⟩ := hSw
            (go_simp; all_goals with_reducible rfl)
          simp only [Act.put, List.setIfInBounds_toArray, List.set_cons_zero, List.set_cons_succ]
          refine held_take (i := 4) (v := ?_) (d := some 40) rfl rfl (by kernel_rfl) (by kernel_rfl) (by kernel_rfl) (fun _ _ _ h => h) ((have h := four_cells_at HOa.out.1; ⟨h.2.1, h.2.2.1⟩)) ⟨?_, fun w hSw => ?_⟩ ?_
          rotate_left 1
          · rfl
          · (go_simp; all_goals with_reducible rfl)
          simp only [Act.put, List.setIfInBounds_toArray, List.set_cons_zero, List.set_cons_succ]
          refine held_take (i := 5) (v := ?_) (d := some 41) rfl rfl (by kernel_rfl) (by kernel_rfl) (by kernel_rfl) (fun _ _ _ h => h) ((have h := four_cells_at HOa.out.1; ⟨h.2.1, h.2.2.1⟩)) ⟨?_, fun w hSw => ?_⟩ ?_
          rotate_left 1
          · rfl
          · (go_simp; all_goals with_reducible rfl)
          simp only [Act.put, List.setIfInBounds_toArray, List.set_cons_zero, List.set_cons_succ]
          refine held_take (i := 6) (v := ?_) (d := some 42) rfl rfl (by kernel_rfl) (by kernel_rfl) (by kernel_rfl) (fun _ _ _ h => h) ((have h := four_cells_at HOa.out.1; ⟨h.2.1, h.2.2.1⟩)) ⟨?_, fun w hSw => ?_⟩ ?_
          rotate_left 1
          · rfl
          · obtain ⟨y1, y2⟩ := hSw
            (go_simp; all_goals with_reducible rfl)
          simp only [Act.put, List.setIfInBounds_toArray, List.set_cons_zero, List.set_cons_succ]
          refine held_step (i := 3) rfl (by kernel_rfl) ?_ (fun K hK => ?_)
          · rfl
          go_simp
          refine (chdrop_any k q sq H S wa (by omega) HW1.out HSa.out.s.t).mono ?_
          rintro e w1x ⟨gd, cd, rfl, hc1, hc1', hg1, hg1', harr1, hk1, hT1⟩
          have HS1 := Lib.hid (HSa.out.same hk1 hT1)
          have HB1 := Lib.hid (HBa.out.trans (HSa.out.belowS (HZ.out _ HBa.out) hk1))
          have HO1 := Lib.hid (HOa.out.same hk1)
          have HIT := Lib.hid (ItAt.of harr1)
          have HC := Lib.hid (And.intro hc1 (And.intro hc1' hg1'))
          clear hk1 hT1 hc1 hc1' hg1 hg1' harr1
          refine hK _ _ ((have h := four_cells_at HO1.out.1; ⟨h.2.1, h.2.2.1⟩)) ?_
          clear hK K
          simp only [List.setIfInBounds_toArray, List.set_cons_zero, List.set_cons_succ]
          refine held_step (i := 7) rfl (by kernel_rfl) ?_ (fun K hK => ?_)
          · rfl
          go_simp
          refine (refitems_any m sq L R w1x (by omega) HS1.out.f).mono ?_
          rintro e w2x ⟨v2, rfl, hrow2, hb2⟩
          obtain ⟨A2, c2, rfl, hsl2, harr2, hA2⟩ := arow_at hrow2
          have HS2 := Lib.hid (HS1.out.next hb2)
          have HB2 := Lib.hid (HM1.out _ _ HB1.out hb2)
          have HO2 := Lib.hid (HO1.out.next hb2)
          have HIT2 : Hid (ItAt w2x gd (H sq)) := HIT.out.kept (Kept.of_new hb2 : Kept (fun _ => False) _ _) fun h => h
          have HRO := Lib.hid (And.intro hsl2 (And.intro harr2 hA2))
          clear hrow2 hb2 hsl2 harr2 hA2 HIT
          refine hK _ _ ((have h := four_cells_at HO2.out.1; ⟨h.2.1, h.2.2.1⟩)) ?_
          clear hK K
          simp only [List.setIfInBounds_toArray, List.set_cons_zero, List.set_cons_succ]
          refine held_step (i := 8) rfl (by kernel_rfl) ?_ (fun K hK => ?_)
          · rfl
          go_simp
          have hlen3 : (Ch.fl L sq).length = (H sq).length := by rw [← HAG.out.items sq, List.length_map]
          have hls3 : (H sq).length ≤ 1000 := Nat.le_trans (HGL.out sq) (by omega)
          rw [hlen3]
          have hro3 := HRO.out
          rw [hlen3] at hro3
          refine (chsame_any gd _ cd c2 _ _ A2 (H sq) (Ch.fl L sq) w2x hls3 HC.out.1 HC.out.2.1 hro3.1 rfl (HAG.out.items sq) HIT2 hro3.2.1 (hro3.2.2.imp id fun ⟨g, h, _⟩ => ⟨g, h⟩)).mono ?_
          rintro e w3x ⟨rfl, hb3⟩
          have HS3 := Lib.hid (HS2.out.next hb3)
          have HB3 := Lib.hid (HM1.out _ _ HB2.out hb3)
          have HO3 := Lib.hid (HO2.out.next hb3)
          clear hb3 hlen3 hls3 hro3 HRO HIT2 HC
          refine hK _ _ ((have h := four_cells_at HO3.out.1; ⟨h.2.1, h.2.2.1⟩)) ?_
          clear hK K
          simp only [List.setIfInBounds_toArray, List.set_cons_zero, List.set_cons_succ]
          refine held_take (i := 9) (v := ?_) (d := some 45) rfl rfl (by kernel_rfl) (by kernel_rfl) (by kernel_rfl) (fun _ _ _ h => h) ((have h := four_cells_at HO3.out.1; ⟨h.2.1, h.2.2.1⟩)) ⟨?_, fun w hSw => ?_⟩ ?_
          rotate_left 1
          · rfl
          · (go_simp; all_goals with_reducible rfl)
          simp only [Act.put, List.setIfInBounds_toArray, List.set_cons_zero, List.set_cons_succ]
          refine wpAnyH_done (by kernel_rfl) ?_ _
          have HSd := HS3
          have HBd := HB3
          have HOd := HO3
          generalize w3x = wd at *
          clear HS3 HB3 HO3
          obtain ⟨x0, x1, x2, x3⟩ := four_cells_at HOd.out.1
          go_wp2_with fail
          refine (refitems_any m sq L R wd (by omega) HSd.out.f).mono ?_
          rintro e we ⟨ve, rfl, hrow, hbe⟩
          obtain ⟨Ae, ce, rfl, hsle, harre, hAe⟩ := arow_at hrow
          have HSe := Lib.hid (HSd.out.next hbe)
          have HBe := Lib.hid (HM1.out _ _ HBd.out hbe)
          have HOe := Lib.hid (HOd.out.next hbe)
          have HXe : Hid (∀ g, Ae = some ⟨g, 0, none⟩ → EntAt we g (Ch.fl L sq) ∧ g < we.heap.size ∧ ¬ R g) := fun g e => by
            rcases hAe with h | ⟨g', h, hg1, hg2⟩
            · rw [h] at e; cases e
            · rw [h] at e harre
              injection e with e
              injection e with e
              subst e
              exact ⟨EntAt.of harre, hg2, fun hr => by have := (HSd.out.r _ hr).2; omega⟩
          have HAe : Hid (0 < (Ch.fl L sq).length → ∃ g, Ae = some ⟨g, 0, none⟩) := fun h => by
            rcases hAe with h2 | ⟨g', h2, -, -⟩
            · obtain ⟨ad, had⟩ := harre.some h
              rw [h2] at had; cases had
            · exact ⟨g', h2⟩
          have hflle := Ch.fl_le L sq
          have hcape := hsle.2.1
          have hcape2 := hsle.2.2
          obtain ⟨nx, hnx⟩ : ∃ nx, (Ch.fl L sq).length = nx := ⟨_, rfl⟩
          rw [hnx] at hflle HAe hcape ⊢
          have HNX := Lib.hid hnx
          clear hrow hbe harre hAe hsle HSd HBd HOd x0 x1 x2 x3 hnx
          go_wp2_with fail
          go_loopw [51] (fun iv wr => ∃ j : Nat, j ≤ nx ∧ iv = .int .i64 (j : Int) ∧ Hid (∃ R' L', XSt B wr q m S R' k (Ch.drop H sq) L' ∧ Left L (Ch.fl L sq) j L' ∧ XOb wr S R' ob (.cells #[.int .i64 kd, .int .i64 sq, .int .i64 of, .string ky] 30 (0, 0)) ∧ ∀ g, Ae = some ⟨g, 0, none⟩ → EntAt wr g (Ch.fl L sq) ∧ g < wr.heap.size ∧ ¬ R' g) ∧ Hid (Below B w wr)) (fun i _ => nx - (Go.RowKit.intOf i).toNat)
          case atStart => exact ⟨0, Nat.zero_le _, rfl, ⟨R, L, HSe.out, Left.first HAG.out.srt, HOe.out, HXe.out⟩, HBe⟩
          case round =>
            clear HSe HBe HOe HXe
            obtain ⟨j, hj, rfl, hst, hbel⟩ := hrel
            obtain ⟨R', L', hstx, hleft, hobx, hex⟩ := hst.out
            have HST := Lib.hid hstx
            have HOBX := Lib.hid hobx
            have HLF := Lib.hid hleft
            have HEX := Lib.hid hex
            have hL9 := hleft.2.1
            clear hleft hex hst hstx hobx
            by_cases hlt : j < nx
            · obtain ⟨g, rfl⟩ := HAe.out (by omega)
              obtain ⟨hea, hgl, hgr⟩ := HEX.out g rfl
              obtain ⟨⟨sx, ox, kx⟩, hp⟩ : ∃ p, Ch.ge (Ch.fl L sq) j = p := ⟨_, rfl⟩
              obtain ⟨m0, m1, m2⟩ := hea j (by rw [HNX.out]; exact hlt)
              rw [hp] at m0 m1 m2
              simp only at m0 m1 m2
              have HL1 : Hid (Below wr.heap.size wr (wr.alloc (.cells #[.int .i64 sx, .int .i64 ox, .string kx] 38))) := (Below.refl _ _).alloc (Nat.le_refl _) _
              have HX1 := Lib.hid (heap_alloc_new wr (.cells #[.int .i64 sx, .int .i64 ox, .string kx] 38))
              have HS1 := Lib.hid (HST.out.next HL1.out)
              have HB1 := Lib.hid (HM1.out _ _ hbel.out HL1.out)
              have HO1 := Lib.hid (HOBX.out.next HL1.out)
              have HE1 : Hid (EntAt (wr.alloc (.cells #[.int .i64 sx, .int .i64 ox, .string kx] 38)) g (Ch.fl L sq) ∧ g < (wr.alloc (.cells #[.int .i64 sx, .int .i64 ox, .string kx] 38)).heap.size ∧ ¬ R' g) := ⟨hea.kept (Kept.of_new HL1.out : Kept (fun _ => False) _ _) fun h => h, Nat.lt_of_lt_of_le hgl HL1.out.size, hgr⟩
              have HPP := Lib.hid hp
              clear hea hgl hgr hp HST HOBX hbel HEX
              go_upto_region 13 with fail
              clear m0 m1 m2 HL1
              generalize wr.alloc (.cells #[.int .i64 sx, .int .i64 ox, .string kx] 38) = w1 at *
              generalize wr.heap.size = bx at *
              obtain ⟨x0, x1, x2⟩ := three_cells_at HX1.out
              go_wp2_with fail
              refine (refrem_any m sx ox L' R' w1 (by omega) HLF.out.1 HS1.out.f).mono ?_
              rintro e w2' ⟨y, L2, rfl, hk2', hf2, hs2, hm2, hl2, -⟩
              have HS2 := Lib.hid (HS1.out.ref (HZ.out _ HB1.out) hk2' hf2)
              have HB2 := Lib.hid (HB1.out.trans (HS1.out.belowR (HZ.out _ HB1.out) hk2'))
              have HO2 := Lib.hid (HO1.out.ref hk2')
              have HE2 : Hid (EntAt w2' g (Ch.fl L sq) ∧ g < w2'.heap.size ∧ ¬ Snc R' w1 w2' g) := ⟨HE1.out.1.kept hk2' HE1.out.2.2, Nat.lt_of_lt_of_le HE1.out.2.1 hk2'.size, fun h => h.elim HE1.out.2.2 fun h => by have := HE1.out.2.1; omega⟩
              have HLF2 : Hid (Left L (Ch.fl L sq) (j + 1) L2) := HLF.out.step hs2 hl2 (by rw [HPP.out]; exact hm2)
              clear hk2' hf2 hs2 hm2 hl2 HS1 HB1 HO1 HE1 HLF x0 x1 x2
              go_wp2_with fail
              go_roundw
              case rel => exact ⟨j + 1, by omega, by go_num, ⟨_, L2, HS2.out, HLF2.out, HO2.out, fun g' e => by
                injection e with e
                injection e with e
                subst e
                exact HE2.out⟩, HB2⟩
              case measure => simp [Go.RowKit.intOf]; omega
            · obtain rfl : j = nx := by omega
              have HA2 := Lib.hid (HAG.out.drop HLF.out.1 (HLF.out.last HNX.out.symm))
              clear hlt
              go_wp2_with fail
              go_meet
              exact ⟨rfl, ⟨_, _, _, L', HST.out.more, HA2.out, by omega, HOBX.out⟩, hbel⟩
      case rest =>
        clear HS2 HB2 HO2 HAG
        obtain ⟨rfl, hstt, hbel⟩ := hcut
        obtain ⟨S, R, H, L, hst, hag, hle, hob⟩ := hstt.out
        have hst := Lib.hid hst
        have HAG := Lib.hid hag
        have HO2 := Lib.hid hob
        clear hstt hag hob
        generalize wc = w3 at *
        have HGL : Hid (∀ x, (H x).length ≤ k + 1) := hst.out.s.t.good.le
        obtain ⟨x0, x1, x2, x3⟩ := four_cells_at HO2.out.1
        go_upto_region 21 with fail
        clear x0 x1 x2 x3
        have HDR : Hid (Below w3.heap.size w3 w3.drew) := ⟨rfl, rfl, rfl, Nat.le_refl _, fun _ _ => rfl⟩
        have HSa := Lib.hid (hst.out.next HDR.out)
        have HBa := Lib.hid (HM1.out _ _ hbel.out HDR.out)
        have HOa := Lib.hid (HO2.out.next HDR.out)
        clear HDR
        clear hst hbel HO2
        refine wp_region_held_drew (S := fun W => W.cell? ⟨ob, 1, none⟩ = some (.int .i64 sq) ∧ W.cell? ⟨ob, 2, none⟩ = some (.int .i64 of)) (by kernel_rfl) ((have h := four_cells_at HOa.out.1; ⟨h.2.1, h.2.2.1⟩)) (fun hH => ?_)
        change wpAnyH _ _ _ _ _ 18 #[false, false, false, false, false, false, false, false, false, false, false, false, false, false, false, false, false, false] _ _
        clear hH
        generalize w3.drew = wa at *
        refine held_take (i := 0) (v := ?_) (d := some 95) rfl rfl (by kernel_rfl) (by kernel_rfl) (by kernel_rfl) (fun _ _ _ h => h) ((have h := four_cells_at HOa.out.1; ⟨h.2.1, h.2.2.1⟩)) ⟨?_, fun w hSw => ?_⟩ ?_
        rotate_left 1
        · rfl
        · (go_simp; all_goals with_reducible rfl)
        simp only [Act.put, List.setIfInBounds_toArray, List.set_cons_zero, List.set_cons_succ]
        refine held_take (i := 1) (v := ?_) (d := some 96) rfl rfl (by kernel_rfl) (by kernel_rfl) (by kernel_rfl) (fun _ _ _ h => h) ((have h := four_cells_at HOa.out.1; ⟨h.2.1, h.2.2.1⟩)) ⟨?_, fun w hSw => ?_⟩ ?_
        rotate_left 1
        · rfl
        · (go_simp; all_goals with_reducible rfl)
        simp only [Act.put, List.setIfInBounds_toArray, List.set_cons_zero, List.set_cons_succ]
        refine held_take (i := 2) (v := ?_) (d := some 97) rfl rfl (by kernel_rfl) (by kernel_rfl) (by kernel_rfl) (fun _ _ _ h => h) ((have h := four_cells_at HOa.out.1; ⟨h.2.1, h.2.2.1⟩)) ⟨?_, fun w hSw => ?_⟩ ?_
        rotate_left 1
        · rfl
        · obtain ⟨y1, y2⟩ := hSw
          (go_simp; all_goals with_reducible rfl)
        simp only [Act.put, List.setIfInBounds_toArray, List.set_cons_zero, List.set_cons_succ]
        refine held_take (i := 4) (v := ?_) (d := some 99) rfl rfl (by kernel_rfl) (by kernel_rfl) (by kernel_rfl) (fun _ _ _ h => h) ((have h := four_cells_at HOa.out.1; ⟨h.2.1, h.2.2.1⟩)) ⟨?_, fun w hSw => ?_⟩ ?_
        rotate_left 1
        · rfl
        · (go_simp; all_goals with_reducible rfl)
        simp only [Act.put, List.setIfInBounds_toArray, List.set_cons_zero, List.set_cons_succ]
        refine held_take (i := 5) (v := ?_) (d := some 100) rfl rfl (by kernel_rfl) (by kernel_rfl) (by kernel_rfl) (fun _ _ _ h => h) ((have h := four_cells_at HOa.out.1; ⟨h.2.1, h.2.2.1⟩)) ⟨?_, fun w hSw => ?_⟩ ?_
        rotate_left 1
        · rfl
        · (go_simp; all_goals with_reducible rfl)
        simp only [Act.put, List.setIfInBounds_toArray, List.set_cons_zero, List.set_cons_succ]
        refine held_take (i := 6) (v := ?_) (d := some 101) rfl rfl (by kernel_rfl) (by kernel_rfl) (by kernel_rfl) (fun _ _ _ h => h) ((have h := four_cells_at HOa.out.1; ⟨h.2.1, h.2.2.1⟩)) ⟨?_, fun w hSw => ?_⟩ ?_
        rotate_left 1
        · rfl
        · obtain ⟨y1, y2⟩ := hSw
          (go_simp; all_goals with_reducible rfl)
        simp only [Act.put, List.setIfInBounds_toArray, List.set_cons_zero, List.set_cons_succ]
        refine held_step (i := 3) rfl (by kernel_rfl) ?_ (fun K hK => ?_)
        · rfl
        go_simp
        refine (chitems_any (k + 1) q sq H S wa (by omega) HW1.out HSa.out.s.t).mono ?_
        rintro e w1x ⟨gd, cd, rfl, hc1, hc1', hg1, hg1', harr1, -, hb1⟩
        have HS1 := Lib.hid (HSa.out.next hb1)
        have HB1 := Lib.hid (HM1.out _ _ HBa.out hb1)
        have HO1 := Lib.hid (HOa.out.next hb1)
        have HIT := Lib.hid (ItAt.of harr1)
        have HC := Lib.hid (And.intro hc1 (And.intro hc1' hg1'))
        clear hb1 hc1 hc1' hg1 hg1' harr1
        refine hK _ _ ((have h := four_cells_at HO1.out.1; ⟨h.2.1, h.2.2.1⟩)) ?_
        clear hK K
        simp only [List.setIfInBounds_toArray, List.set_cons_zero, List.set_cons_succ]
        refine held_step (i := 7) rfl (by kernel_rfl) ?_ (fun K hK => ?_)
        · rfl
        go_simp
        refine (refitems_any m sq L R w1x (by omega) HS1.out.f).mono ?_
        rintro e w2x ⟨v2, rfl, hrow2, hb2⟩
        obtain ⟨A2, c2, rfl, hsl2, harr2, hA2⟩ := arow_at hrow2
        have HS2 := Lib.hid (HS1.out.next hb2)
        have HB2 := Lib.hid (HM1.out _ _ HB1.out hb2)
        have HO2 := Lib.hid (HO1.out.next hb2)
        have HIT2 : Hid (ItAt w2x gd (H sq)) := HIT.out.kept (Kept.of_new hb2 : Kept (fun _ => False) _ _) fun h => h
        have HRO := Lib.hid (And.intro hsl2 (And.intro harr2 hA2))
        clear hrow2 hb2 hsl2 harr2 hA2 HIT
        refine hK _ _ ((have h := four_cells_at HO2.out.1; ⟨h.2.1, h.2.2.1⟩)) ?_
        clear hK K
        simp only [List.setIfInBounds_toArray, List.set_cons_zero, List.set_cons_succ]
        refine held_step (i := 8) rfl (by kernel_rfl) ?_ (fun K hK => ?_)
        · rfl
        go_simp
        have hlen3 : (Ch.fl L sq).length = (H sq).length := by rw [← HAG.out.items sq, List.length_map]
        have hls3 : (H sq).length ≤ 1000 := Nat.le_trans (HGL.out sq) (by omega)
        rw [hlen3]
        have hro3 := HRO.out
        rw [hlen3] at hro3
        refine (chsame_any gd _ cd c2 _ _ A2 (H sq) (Ch.fl L sq) w2x hls3 HC.out.1 HC.out.2.1 hro3.1 rfl (HAG.out.items sq) HIT2 hro3.2.1 (hro3.2.2.imp id fun ⟨g, h, _⟩ => ⟨g, h⟩)).mono ?_
        rintro e w3x ⟨rfl, hb3⟩
        have HS3 := Lib.hid (HS2.out.next hb3)
        have HB3 := Lib.hid (HM1.out _ _ HB2.out hb3)
        have HO3 := Lib.hid (HO2.out.next hb3)
        clear hb3 hlen3 hls3 hro3 HRO HIT2 HC
        refine hK _ _ ((have h := four_cells_at HO3.out.1; ⟨h.2.1, h.2.2.1⟩)) ?_
        clear hK K
        simp only [List.setIfInBounds_toArray, List.set_cons_zero, List.set_cons_succ]
        refine held_take (i := 9) (v := ?_) (d := some 104) rfl rfl (by kernel_rfl) (by kernel_rfl) (by kernel_rfl) (fun _ _ _ h => h) ((have h := four_cells_at HO3.out.1; ⟨h.2.1, h.2.2.1⟩)) ⟨?_, fun w hSw => ?_⟩ ?_
        rotate_left 1
        · rfl
        · (go_simp; all_goals with_reducible rfl)
        simp only [Act.put, List.setIfInBounds_toArray, List.set_cons_zero, List.set_cons_succ]
        refine held_take (i := 10) (v := ?_) (d := some 105) rfl rfl (by kernel_rfl) (by kernel_rfl) (by kernel_rfl) (fun _ _ _ h => h) ((have h := four_cells_at HO3.out.1; ⟨h.2.1, h.2.2.1⟩)) ⟨?_, fun w hSw => ?_⟩ ?_
        rotate_left 1
        · rfl
        · (go_simp; all_goals with_reducible rfl)
        simp only [Act.put, List.setIfInBounds_toArray, List.set_cons_zero, List.set_cons_succ]
        refine held_take (i := 11) (v := ?_) (d := some 106) rfl rfl (by kernel_rfl) (by kernel_rfl) (by kernel_rfl) (fun _ _ _ h => h) ((have h := four_cells_at HO3.out.1; ⟨h.2.1, h.2.2.1⟩)) ⟨?_, fun w hSw => ?_⟩ ?_
        rotate_left 1
        · rfl
        · (go_simp; all_goals with_reducible rfl)
        simp only [Act.put, List.setIfInBounds_toArray, List.set_cons_zero, List.set_cons_succ]
        refine held_take (i := 13) (v := ?_) (d := some 108) rfl rfl (by kernel_rfl) (by kernel_rfl) (by kernel_rfl) (fun _ _ _ h => h) ((have h := four_cells_at HO3.out.1; ⟨h.2.1, h.2.2.1⟩)) ⟨?_, fun w hSw => ?_⟩ ?_
        rotate_left 1
        · rfl
        · (go_simp; all_goals with_reducible rfl)
        simp only [Act.put, List.setIfInBounds_toArray, List.set_cons_zero, List.set_cons_succ]
        refine held_step (i := 12) rfl (by kernel_rfl) ?_ (fun K hK => ?_)
        · rfl
        go_simp
        refine (chseqs_any (k + 1) q H S w3x (by omega) HS3.out.s.t).mono ?_
        rintro e w4x ⟨v4, ss, rfl, hrow4, hasc, hmem, hb4⟩
        obtain rfl := HAG.out.seqs hasc hmem
        obtain ⟨A4, c4, rfl, hsl4, harr4, -⟩ := arow_at hrow4
        have HS4 := Lib.hid (HS3.out.next hb4)
        have HB4 := Lib.hid (HM1.out _ _ HB3.out hb4)
        have HO4 := Lib.hid (HO3.out.next hb4)
        have HQ1 := Lib.hid harr4
        clear hrow4 hasc hmem hb4 hsl4 harr4
        refine hK _ _ ((have h := four_cells_at HO4.out.1; ⟨h.2.1, h.2.2.1⟩)) ?_
        clear hK K
        simp only [List.setIfInBounds_toArray, List.set_cons_zero, List.set_cons_succ]
        refine held_step (i := 14) rfl (by kernel_rfl) ?_ (fun K hK => ?_)
        · rfl
        go_simp
        refine (refseqs_any m L R w4x (by omega) HS4.out.f).mono ?_
        rintro e w5x ⟨v5, rfl, hrow5, hb5⟩
        obtain ⟨A5, c5, rfl, hsl5, harr5, -⟩ := arow_at hrow5
        have HS5 := Lib.hid (HS4.out.next hb5)
        have HB5 := Lib.hid (HM1.out _ _ HB4.out hb5)
        have HO5 := Lib.hid (HO4.out.next hb5)
        have HQ2 := Lib.hid harr5
        have HQ3 := Lib.hid (HQ1.out.below hb5 (Nat.le_refl _))
        clear hrow5 hb5 hsl5 harr5 HQ1
        refine hK _ _ ((have h := four_cells_at HO5.out.1; ⟨h.2.1, h.2.2.1⟩)) ?_
        clear hK K
        simp only [List.setIfInBounds_toArray, List.set_cons_zero, List.set_cons_succ]
        refine held_step (i := 15) rfl (by kernel_rfl) ?_ (fun K hK => ?_)
        · rfl
        go_simp
        have hqs6 : (Ch.sqs L).length ≤ 140737488355328 := by have := Ch.sqs_le _ L rfl; omega
        refine (refints_any A4 A5 _ _ _ _ _ _ c4 c5 (Ch.sqs L) (Ch.sqs L) w5x rfl rfl hqs6 hqs6 HQ3 HQ2).mono ?_
        rintro e w6x ⟨rfl, hb6⟩
        rw [decide_eq_true (rfl : Ch.sqs L = Ch.sqs L)]
        have HS6 := Lib.hid (HS5.out.next hb6)
        have HB6 := Lib.hid (HM1.out _ _ HB5.out hb6)
        have HO6 := Lib.hid (HO5.out.next hb6)
        clear hb6 hqs6 HQ2 HQ3
        refine hK _ _ ((have h := four_cells_at HO6.out.1; ⟨h.2.1, h.2.2.1⟩)) ?_
        clear hK K
        simp only [List.setIfInBounds_toArray, List.set_cons_zero, List.set_cons_succ]
        refine held_take (i := 16) (v := ?_) (d := some 111) rfl rfl (by kernel_rfl) (by kernel_rfl) (by kernel_rfl) (fun _ _ _ h => h) ((have h := four_cells_at HO6.out.1; ⟨h.2.1, h.2.2.1⟩)) ⟨?_, fun w hSw => ?_⟩ ?_
        rotate_left 1
        · rfl
        · (go_simp; all_goals with_reducible rfl)
        simp only [Act.put, List.setIfInBounds_toArray, List.set_cons_zero, List.set_cons_succ]
        refine held_take (i := 17) (v := ?_) (d := some 112) rfl rfl (by kernel_rfl) (by kernel_rfl) (by kernel_rfl) (fun _ _ _ h => h) ((have h := four_cells_at HO6.out.1; ⟨h.2.1, h.2.2.1⟩)) ⟨?_, fun w hSw => ?_⟩ ?_
        rotate_left 1
        · rfl
        · (go_simp; all_goals with_reducible rfl)
        simp only [Act.put, List.setIfInBounds_toArray, List.set_cons_zero, List.set_cons_succ]
        refine wpAnyH_done (by kernel_rfl) ?_ _
        go_wp2_with fail
        go_roundw
        case rel => exact ⟨k + 1, by omega, by omega, by go_num, ⟨S, R, H, L, HS6.out, HAG.out, hle⟩, HB6⟩
        case measure => simp [Go.RowKit.intOf]; omega
    · have hex : (k < n ∧ Hid (decide ((k : Int) < 40) = false)) ∨ (¬ k < n ∧ Hid True) := by
        rcases Nat.lt_or_ge k n with h | h
        · exact .inl ⟨h, decide_eq_false (by have : ¬ k < 40 := fun h2 => hlt ⟨h, h2⟩; omega)⟩
        · exact .inr ⟨by omega, trivial⟩
      clear hlt
      rcases hex with ⟨hlt, hd0⟩ | ⟨hlt, hd0⟩
      all_goals
        have hd1 := hd0.out
        clear hd0
        go_wp2_with fail
        refine (chawake_any wr).mono ?_
        rintro e w6 ⟨rfl, hb6⟩
        have HB6 := Lib.hid (HM1.out _ _ hbel.out hb6)
        clear hb6 hbel
        go_wp2_with fail
        go_ret
        exact ⟨rfl, HB6.out⟩
end Go.Proofs.Ytlhjofcpcccdpaa
