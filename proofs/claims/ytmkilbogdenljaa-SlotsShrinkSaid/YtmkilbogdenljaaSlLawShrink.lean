/-
  The walk of the law SlotsShrink.
-/
import Derived.Test.YtmkilbogdenljaaSlLawGrow
set_option maxRecDepth 100000
namespace Go.Proofs.Ytmkilbogdenljaa
open Go.RowKit
set_option maxHeartbeats 4000000 in
theorem slotsshrink_any (a b c d more : Int) (A : Option Addr) (n cap : Nat) (l : List Int) (w : World) (hs : SlIs A n cap) (hl : Hid (l.length = n)) (hb : Hid (Arr intS w 0 w.heap.size A l)) :
    Calls Try.prog 6 #[.agg #[.int .i64 a, .int .i64 b, .int .i64 c, .int .i64 d], .slice A n cap, .int .i64 more] w fun e w' => e = .returned (.bool true) ∧ Below w.heap.size w w' := by
  obtain ⟨-, hc1, hc2⟩ := hs
  have CF := Lib.hid (fun W => refsbform_any a b c d W)
  have CA := Lib.hid (fun W => slawake_any W)
  have HS0 := Lib.hid (sd_new w #[.int .i64 a, .int .i64 b, .int .i64 c, .int .i64 d] 23)
  by_cases hf : Sb.form ⟨a, b, c, d⟩
  · have hnum := Gm.form_nums hf
    simp only at hnum
    obtain ⟨N, rfl⟩ := Int.eq_ofNat_of_zero_le (a := d) (by omega)
    have HF := Lib.hid hf
    rw [decide_eq_true hf] at CF
    have hmk := made_flags N (by omega)
    clear hf
    go_enter Try.func6, Try.ntmps6
    go_upto_region 1 with fail
    generalize w.alloc (.cells #[.int .i64 a, .int .i64 b, .int .i64 c, .int .i64 (N : Int)] 23) = w0 at *
    obtain ⟨z0, z1, z2, z3⟩ := sd_cells4 HS0.out
    go_wp2_with fail
    refine (CF.out _).mono ?_
    rintro e w1 ⟨rfl, hb1⟩
    have HS1 := Lib.hid (HS0.out.next hb1 (by rfl) (by rfl) (by rfl) (by rfl))
    clear hb1 HS0 z0 z1 z2 z3
    obtain ⟨z0, z1, z2, z3⟩ := sd_cells4 HS1.out
    go_upto_region 5 with fail
    have HU := Lib.hid (heap_alloc_new w1 (.cells (bls (List.replicate N false)).toArray 4))
    have HS2 := Lib.hid (HS1.out.next ((Below.refl _ w1).alloc (Nat.le_refl _) (.cells (bls (List.replicate N false)).toArray 4)) rfl rfl rfl rfl)
    have HLT := Lib.hid HS1.out.lt
    clear hmk z0 z1 z2 z3
    generalize w1.alloc (.cells (bls (List.replicate N false)).toArray 4) = w2 at *
    go_upto_block 0 with fail
    go_cut [7] (fun v wx => ∃ (m : Nat) (lv : List Gm.R), Hid (Gath w w1 a b c N m lv v wx))
    case first =>
      go_wp2_with fail
      go_loopw [7, 9] (fun v iv wr => ∃ (i m : Nat) (lv : List Gm.R), i ≤ n ∧ iv = .int .i64 (i : Int) ∧ Hid (Gath w w1 a b c N m lv v wr)) (fun _ i _ => n - (intOf i).toNat)
      case atStart => exact ⟨0, 0, [], Nat.zero_le _, rfl, rfl, by omega, (fun r h => by cases h), ARow.nil _ _, ⟨_, List.length_replicate, HU.out⟩, HS2.out⟩
      case round =>
        clear HS1 HS2 HU
        obtain ⟨i, m, lv, hi, rfl, HG⟩ := hrel
        obtain ⟨hlen, hm1, hall, hr, ⟨u, hu, huw⟩, hsw⟩ := HG.out
        obtain ⟨A1, c1, rfl, hs1, ha1⟩ := hr.open_
        have HR := Lib.hid hr
        have HS := Lib.hid hsw
        have HUW := Lib.hid huw
        have HALL := Lib.hid hall
        have HLV := Lib.hid hlen
        have HUL := Lib.hid hu
        clear hr hsw huw hall hlen ha1 hs1 hu
        obtain ⟨z0, z1, z2, z3⟩ := sd_cells4 HS.out
        have q1 : wrap64 ((N : Int) - 1) = (N : Int) - 1 := by unfold wrap64; omega
        by_cases h1 : i < n ∧ m + 1 < N
        · obtain ⟨h1, h2⟩ := h1
          have d1 : decide ((i : Int) < (n : Int)) = true := decide_eq_true (by omega)
          have d2 : decide ((m : Int) < (N : Int) - 1) = true := decide_eq_true (by omega)
          obtain ⟨ad, rfl⟩ := hb.out.some (k := i) (by rw [hl.out]; exact h1)
          have y0 := ints_at (hb.out.below HS.out.2 (Nat.le_refl _)) i (by rw [hl.out]; exact h1)
          obtain ⟨x, hx⟩ : ∃ x, l.getD i 0 = x := ⟨_, rfl⟩
          rw [hx] at y0
          clear hx
          obtain ⟨j, hj, hmod⟩ := sl_mod x N (by omega)
          have hjN : j < N := by omega
          have hN0 : ¬ (N : Int) = 0 := by omega
          go_upto_region 8 with fail
          go_quiet (fail)
          go_upto_region 9 with fail
          have HSQ : Hid (Sd w w.heap.size (.cells #[.int .i64 a, .int .i64 b, .int .i64 c, .int .i64 (N : Int)] 23 (0, 0)) (wr.drewN nq)) := sd_run HS.out nq
          have HRQ : Hid (ARow regS 40 (wr.drewN nq) (w1.heap.size + 1) (.slice A1 m c1) m lv) := HR.out.heap rfl
          have HUQ : Hid ((wr.drewN nq).heap[w1.heap.size]? = some (.cells (bls u).toArray 4 (0, 0))) := HUW.out
          clear HS HR HUW HG z0 z1 z2 z3 y0 hmod
          generalize wr.drewN nq = wq at *
          have y0 := bls_at HUQ.out j (by rw [HUL.out]; exact hjN)
          cases hfl : u.getD j true with
          | true =>
            rw [hfl] at y0
            go_wp2_with fail
            exact ⟨⟨i + 1, m, lv, by omega, by go_num, HLV.out, hm1, HALL.out, HRQ.out, ⟨u, HUL.out, HUQ.out⟩, HSQ.out⟩, by simp [intOf]; omega⟩
          | false =>
            rw [hfl] at y0
            have f0 : wq.frozen? ⟨w1.heap.size, j, none⟩ = false := frozen_of_row _ _ _ _ _ HUQ.out
            have HSS : Hid (Sd w w.heap.size (.cells #[.int .i64 a, .int .i64 b, .int .i64 c, .int .i64 (N : Int)] 23 (0, 0)) (wq.setCell ⟨w1.heap.size, j, none⟩ (.bool true))) := ⟨set_past HSQ.out.1 (by have := HLT.out; omega) j (.bool true), HSQ.out.2.setCell (Nat.le_of_lt HLT.out) _⟩
            have HRS := Lib.hid (ord_past HRQ.out (g := w1.heap.size) (Nat.lt_succ_self _) j (.bool true))
            have HUS := Lib.hid (bls_set HUQ.out j)
            go_upto_region 11 with fail
            clear HSQ HRQ HUQ f0 y0
            generalize wq.setCell ⟨w1.heap.size, j, none⟩ (.bool true) = ws at *
            obtain ⟨z0, z1, z2, z3⟩ := sd_cells4 HSS.out
            have q2 : wrap64 ((i : Int) + 1) = (i : Int) + 1 := by unfold wrap64; omega
            have HSB : Hid (Sd w w.heap.size _ (ws.alloc (.cells #[.int .i64 0, .int .i64 (j : Int), .int .i64 0, .int .i64 ((i : Int) + 1), .int .i64 0, .int .i64 0, .int .i64 a, .int .i64 b, .int .i64 c, .int .i64 (N : Int)] 40))) := HSS.out.next ((Below.refl _ ws).alloc (Nat.le_refl _) _) rfl rfl rfl rfl
            have HRB := Lib.hid (HRS.out.made (.cells #[.int .i64 0, .int .i64 (j : Int), .int .i64 0, .int .i64 ((i : Int) + 1), .int .i64 0, .int .i64 0, .int .i64 a, .int .i64 b, .int .i64 c, .int .i64 (N : Int)] 40))
            have HUB := Lib.hid ((heap_alloc_old ws (.cells #[.int .i64 0, .int .i64 (j : Int), .int .i64 0, .int .i64 ((i : Int) + 1), .int .i64 0, .int .i64 0, .int .i64 a, .int .i64 b, .int .i64 c, .int .i64 (N : Int)] 40) (Array.getElem?_eq_some_iff.1 HUS.out).1).trans HUS.out)
            have HGB : Hid ((ws.alloc (.cells #[.int .i64 0, .int .i64 (j : Int), .int .i64 0, .int .i64 ((i : Int) + 1), .int .i64 0, .int .i64 0, .int .i64 a, .int .i64 b, .int .i64 c, .int .i64 (N : Int)] 40)).heap[ws.heap.size]? = some (.cells (regS.cs ⟨0, (j : Int), 0, (i : Int) + 1, 0, 0, ⟨a, b, c, (N : Int)⟩⟩).toArray 40 (0, 0))) := heap_alloc_new _ _
            have HZS : Hid (w1.heap.size + 1 ≤ (ws.alloc (.cells #[.int .i64 0, .int .i64 (j : Int), .int .i64 0, .int .i64 ((i : Int) + 1), .int .i64 0, .int .i64 0, .int .i64 a, .int .i64 b, .int .i64 c, .int .i64 (N : Int)] 40)).heap.size) := Nat.succ_le_of_lt (Array.getElem?_eq_some_iff.1 HUB.out).1
            clear HSS HRS HUS
            go_wp2_with (at_builtin; refine wpList_append_arr (S := regS) 24 Try.underlying24 info_reg rfl rfl (.tmp 55) (.tmp 62) rfl ws.heap.size 1 ⟨0, (j : Int), 0, (i : Int) + 1, 0, 0, ⟨a, b, c, (N : Int)⟩⟩ rfl HRB.out rfl HGB.out (by unfold maxLen; omega) (by omega) HZS.out ?_; intro v4 w4 hr4 hb4 hx4)
            have HR4 := Lib.hid hr4
            have HS4 : Hid (Sd w w.heap.size _ w4) := ⟨block_next HSB.out.1 hb4 (Nat.lt_succ_of_lt HLT.out), HSB.out.2.trans (hb4.mono (Nat.le_succ_of_le (Nat.le_of_lt HLT.out)))⟩
            have HU4 := Lib.hid (block_next HUB.out hb4 (Nat.lt_succ_self _))
            clear hr4 hb4 hx4 HRB HGB HSB HUB
            go_wp2_with fail
            exact ⟨⟨i + 1, m + 1, lv ++ [⟨0, (j : Int), 0, (i : Int) + 1, 0, 0, ⟨a, b, c, (N : Int)⟩⟩], by omega, by go_num, by rw [List.length_append, HLV.out]; rfl, by omega, (fun r hr => by
              rcases List.mem_append.1 hr with h | h
              · exact HALL.out r h
              · rw [List.mem_singleton.1 h]), HR4.out, ⟨_, (List.length_set ..).trans HUL.out, HU4.out⟩, HS4.out⟩, by simp [intOf]; omega⟩
        · rcases (show ¬ i < n ∨ (i < n ∧ ¬ m + 1 < N) by omega) with h2 | ⟨h2, h3⟩
          · have d1 : decide ((i : Int) < (n : Int)) = false := decide_eq_false (by omega)
            go_wp2_with fail
            go_meet
            exact ⟨m, lv, HG⟩
          · have d1 : decide ((i : Int) < (n : Int)) = true := decide_eq_true (by omega)
            have d2 : decide ((m : Int) < (N : Int) - 1) = false := decide_eq_false (by omega)
            go_wp2_with fail
            go_meet
            exact ⟨m, lv, HG⟩
    case rest =>
      obtain ⟨m, lv, HG⟩ := hcut
      clear HS1 HS2 HU
      obtain ⟨hlen, hm1, hall, hr, -, hsw⟩ := HG.out
      obtain ⟨A1, c1, rfl, hs1, ha1⟩ := hr.open_
      have HS := Lib.hid hsw
      have HA := Lib.hid ha1
      have HALL := Lib.hid hall
      have HLV := Lib.hid hlen
      clear hr hsw hall hlen ha1 hs1 HG
      generalize wc = w3 at *
      obtain ⟨z0, z1, z2, z3⟩ := sd_cells4 HS.out
      go_upto_region 13 with fail
      have HT := Lib.hid (heap_alloc_new w3 (.cells #[.int .i64 a, .int .i64 b, .int .i64 c, .int .i64 (N : Int)] 23))
      have HS4 := Lib.hid (HS.out.next ((Below.refl _ w3).alloc (Nat.le_refl _) (.cells #[.int .i64 a, .int .i64 b, .int .i64 c, .int .i64 (N : Int)] 23)) rfl rfl rfl rfl)
      have HA4 : Hid (Arr regS (w3.alloc (.cells #[.int .i64 a, .int .i64 b, .int .i64 c, .int .i64 (N : Int)] 23)) (w1.heap.size + 1) w3.heap.size A1 lv) := HA.out.below ((Below.refl _ w3).alloc (Nat.le_refl _) _) (Nat.le_refl _)
      have HLT3 : Hid (w.heap.size < w3.heap.size) := HS.out.lt
      clear HS HA z0 z1 z2 z3
      generalize w3.alloc (.cells #[.int .i64 a, .int .i64 b, .int .i64 c, .int .i64 (N : Int)] 23) = w4 at *
      obtain ⟨z0, z1, z2, z3⟩ := sd_cells4 HS4.out
      obtain ⟨y0, y1, y2, y3⟩ := four_cells HT.out
      have f0 : w4.frozen? ⟨w3.heap.size, 0, none⟩ = false := frozen_of_row _ _ _ _ _ HT.out
      have f3 : w4.frozen? ⟨w3.heap.size, 3, none⟩ = false := frozen_of_row _ _ _ _ _ HT.out
      have hab : 1 ≤ a ∧ a ≤ 4294967295 := HF.out.1
      have hN3 : ¬ (N : Int) - 3 = 0 := by omega
      have e1 : wrap64 ((N : Int) - 3) = (N : Int) - 3 := by unfold wrap64; omega
      have r1 : -((N : Int) - 3) < more.tmod ((N : Int) - 3) := Int.lt_tmod_of_pos more (by omega)
      have r2 : more.tmod ((N : Int) - 3) < (N : Int) - 3 := Int.tmod_lt_of_pos more (by omega)
      obtain ⟨y, hy⟩ : ∃ y, more.tmod ((N : Int) - 3) = y := ⟨_, rfl⟩
      rw [hy] at r1 r2
      have e2 : wrap64 (y + (N : Int)) = y + (N : Int) := by unfold wrap64; omega
      have e3 : wrap64 (y + (N : Int) - 3) = y + (N : Int) - 3 := by unfold wrap64; omega
      have r3 : 0 ≤ (y + (N : Int) - 3).tmod ((N : Int) - 3) := Int.tmod_nonneg _ (by omega)
      have r4 : (y + (N : Int) - 3).tmod ((N : Int) - 3) < (N : Int) - 3 := Int.tmod_lt_of_pos _ (by omega)
      obtain ⟨M, hM⟩ : ∃ M : Nat, wrap64 (4 + (y + (N : Int) - 3).tmod ((N : Int) - 3)) = (M : Int) ∧ 4 ≤ M ∧ M ≤ N := by
        refine ⟨(4 + (y + (N : Int) - 3).tmod ((N : Int) - 3)).toNat, ?_, by omega, by omega⟩
        unfold wrap64; omega
      obtain ⟨e4, hM1, hM2⟩ := hM
      obtain ⟨I, hI⟩ : ∃ I, 1 + a % 9 = I := ⟨_, rfl⟩
      have hI9 : 1 ≤ I ∧ I ≤ 9 := by omega
      have HI := Lib.hid hI
      clear r1 r2 r3 r4 hI
      go_cut [6] (fun v wx => v = .bool false ∧ Hid (wx.heap[w3.heap.size]? = some (.cells #[.int .i64 I, .int .i64 b, .int .i64 c, .int .i64 (M : Int)] 23 (0, 0))) ∧ Hid (Below w3.heap.size w4 wx))
      case first =>
        go_region
        all_goals
          go_wp2
          go_meet
          rw [HI.out]
          exact ⟨rfl, set_at (cs := [.int .i64 I, .int .i64 b, .int .i64 c, .int .i64 (N : Int)]) (set_at (cs := [.int .i64 a, .int .i64 b, .int .i64 c, .int .i64 (N : Int)]) HT.out 0 (.int .i64 I)) 3 (.int .i64 (M : Int)),
            below_drawn (((Below.refl w3.heap.size w4).setCell (show w3.heap.size ≤ (⟨w3.heap.size, 0, none⟩ : Addr).block from Nat.le_refl _) _).setCell (show w3.heap.size ≤ (⟨w3.heap.size, 3, none⟩ : Addr).block from Nat.le_refl _) _) 1⟩
      case rest =>
        obtain ⟨rfl, HT5, HB45⟩ := hcut
        have HB5 := Lib.hid (HS4.out.2.trans (HB45.out.mono (Nat.le_of_lt HLT3.out)))
        have HA5 := Lib.hid (HA4.out.below HB45.out (Nat.le_refl _))
        have HZ5 := Lib.hid (Array.getElem?_eq_some_iff.1 HT5.out).1
        clear HB45 HT HS4 HA4 z0 z1 z2 z3 y0 y1 y2 y3 f0 f3 e1 e2 e3 e4 HI
        generalize wc = w5 at *
        obtain ⟨y0, y1, y2, y3⟩ := four_cells HT5.out
        have hf2 : Sb.form ⟨I, b, c, (M : Int)⟩ := ⟨⟨by show 1 ≤ I; omega, by show I ≤ 4294967295; omega⟩, HF.out.2.1, HF.out.2.2.1, by show 4 ≤ (M : Int); omega, by show (M : Int) ≤ 16; omega⟩
        obtain ⟨k, hk⟩ : ∃ k, m - ((M : Int) - 1).toNat = k := ⟨_, rfl⟩
        have hcut : Sl.cut ⟨I, b, c, (M : Int)⟩ (Sl.order lv) = k := by
          rw [Sl.cut_same (t := ⟨I, b, c, (M : Int)⟩) (l := ⟨a, b, c, (N : Int)⟩) hf2 HF.out rfl (fun r hr => HALL.out r (Sl.mem_order.1 hr)), Sl.order_length, HLV.out]
          exact hk
        have CX : Hid (∀ W, Below w5.heap.size w5 W → Calls Try.prog 20 #[.agg #[.int .i64 I, .int .i64 b, .int .i64 c, .int .i64 (M : Int)], .slice A1 m c1] W fun e w' => e = .returned (.int .i64 (k : Int)) ∧ Below W.heap.size W w') := fun W hW => by
          have h := slcut_any I b c (M : Int) A1 (w1.heap.size + 1) w3.heap.size m c1 lv W (Nat.le_trans (Nat.le_of_lt HZ5.out) hW.size) HLV (by omega) (Lib.hid (HA5.out.below hW (Nat.le_of_lt HZ5.out)))
          rwa [hcut] at h
        have g0 : decide (0 ≤ (k : Int)) = true := decide_eq_true (by omega)
        have g1 : decide ((k : Int) ≤ (m : Int)) = true := decide_eq_true (by omega)
        have g2 : wrap64 ((m : Int) - (k : Int)) = (m : Int) - (k : Int) := by unfold wrap64; omega
        have g3 : wrap64 ((M : Int) - 1) = (M : Int) - 1 := by unfold wrap64; omega
        have g4 : decide ((m : Int) - (k : Int) ≤ (M : Int) - 1) = true := decide_eq_true (by omega)
        clear hcut hf2 HALL HLV HA5
        go_wp2_with fail
        refine (CX.out _ (Below.refl _ _)).mono ?_
        rintro e w6 ⟨rfl, hb6⟩
        have HX6 := Lib.hid hb6
        clear hb6 y0 y1 y2 y3
        go_wp2_with fail
        refine (CA.out _).mono ?_
        rintro e w7 ⟨rfl, hb7⟩
        have HX7 := Lib.hid (HX6.out.trans (hb7.mono HX6.out.size))
        clear hb7
        have HT7 := Lib.hid (block_next HT5.out HX7.out HZ5.out)
        obtain ⟨y0, y1, y2, y3⟩ := four_cells HT7.out
        go_wp2_with fail
        all_goals
          go_ret
          exact ⟨ret_bool (decide_eq_true (by omega)), HB5.out.trans (HX7.out.mono HB5.out.size)⟩
  · rw [decide_eq_false hf] at CF
    clear hf
    go_enter Try.func6, Try.ntmps6
    go_upto_region 1 with fail
    generalize w.alloc (.cells #[.int .i64 a, .int .i64 b, .int .i64 c, .int .i64 d] 23) = w0 at *
    obtain ⟨z0, z1, z2, z3⟩ := sd_cells4 HS0.out
    go_wp2_with fail
    refine (CF.out _).mono ?_
    rintro e w1 ⟨rfl, hb1⟩
    have HS1 := Lib.hid (HS0.out.next hb1 (by rfl) (by rfl) (by rfl) (by rfl))
    clear hb1
    go_wp2_with fail
    refine (CA.out _).mono ?_
    rintro e w2 ⟨rfl, hb2⟩
    have HS2 := Lib.hid (HS1.out.next hb2 (by rfl) (by rfl) (by rfl) (by rfl))
    go_wp2
    go_ret
    exact ⟨rfl, HS2.out.2⟩
end Go.Proofs.Ytmkilbogdenljaa
