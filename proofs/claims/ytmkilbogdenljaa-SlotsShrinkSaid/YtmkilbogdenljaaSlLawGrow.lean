/-
  The walk of the law SlotsGrow.
-/
import Derived.Test.YtmkilbogdenljaaSlProg
import Derived.Test.YtmkilbogdenljaaSlAwake
set_option maxRecDepth 100000
namespace Go.Proofs.Ytmkilbogdenljaa
open Go.RowKit
theorem sl_mod (x K : Int) (hK : 4 ≤ K ∧ K ≤ 16) : ∃ j : Nat, (j : Int) < K ∧ (wrap64 (x.tmod K + K)).tmod K = (j : Int) := by
  have h2 : x.tmod K < K := Int.tmod_lt_of_pos x (by omega)
  have h3 : -K < x.tmod K := Int.lt_tmod_of_pos x (by omega)
  have h4 : wrap64 (x.tmod K + K) = x.tmod K + K := IntWalk.wrap64_in _ ⟨by omega, by omega⟩
  have h5 : 0 ≤ (x.tmod K + K).tmod K := Int.tmod_nonneg _ (by omega)
  have h6 : (x.tmod K + K).tmod K < K := Int.tmod_lt_of_pos _ (by omega)
  refine ⟨((x.tmod K + K).tmod K).toNat, by omega, ?_⟩
  rw [h4]
  omega
theorem sl_and (n : Int) (k : Nat) (ki : Int) (hk : (BitVec.ofInt 64 ki).toNat = k) (hk2 : k < 4611686018427387904) : ∃ N : Nat, N ≤ k ∧ bits .and .i64 n ki = (N : Int) := by
  have hle : (BitVec.ofInt 64 n).toNat &&& k ≤ k := Nat.and_le_right
  refine ⟨(BitVec.ofInt 64 n).toNat &&& k, hle, ?_⟩
  show IntKind.i64.wrap ((BitVec.ofInt 64 n &&& BitVec.ofInt 64 ki).toNat : Int) = _
  rw [BitVec.toNat_and, hk, IntKind.wrap_i64]
  omega
/-- While regions are gathered: a list of at most N - 1 regions of one layout, and the flags of its slots. -/
def Gath (w w1 : World) (a b c : Int) (N m : Nat) (lv : List Gm.R) (v : Value) (wr : World) : Prop :=
  lv.length = m ∧ m + 1 ≤ N ∧ (∀ r ∈ lv, r.l = ⟨a, b, c, (N : Int)⟩) ∧ ARow regS 40 wr (w1.heap.size + 1) v m lv ∧
    (∃ u, u.length = N ∧ wr.heap[w1.heap.size]? = some (.cells (bls u).toArray 4 (0, 0))) ∧ Sd w w.heap.size (.cells #[.int .i64 a, .int .i64 b, .int .i64 c, .int .i64 (N : Int)] 23 (0, 0)) wr
set_option maxHeartbeats 4000000 in
theorem slotsgrow_any (a b c d more : Int) (A : Option Addr) (n cap : Nat) (l : List Int) (w : World) (hs : SlIs A n cap) (hl : Hid (l.length = n)) (hb : Hid (Arr intS w 0 w.heap.size A l)) :
    Calls Try.prog 5 #[.agg #[.int .i64 a, .int .i64 b, .int .i64 c, .int .i64 d], .slice A n cap, .int .i64 more] w fun e w' => e = .returned (.bool true) ∧ Below w.heap.size w w' := by
  obtain ⟨-, hc1, hc2⟩ := hs
  have CF := Lib.hid (fun W => refsbform_any a b c d W)
  have CA := Lib.hid (fun W => slawake_any W)
  have HS0 := Lib.hid (sd_new w #[.int .i64 a, .int .i64 b, .int .i64 c, .int .i64 d] 23)
  by_cases hf : Sb.form ⟨a, b, c, d⟩
  · have hnum := Gm.form_nums hf
    simp only at hnum
    obtain ⟨N, rfl⟩ := Int.eq_ofNat_of_zero_le (a := d) (by omega)
    have HF := Lib.hid hf
    rw [decide_eq_true hf] at CF
    have hmk := made_flags N (by omega)
    clear hf
    go_enter Try.func5, Try.ntmps5
    go_upto_region 1 with fail
    generalize w.alloc (.cells #[.int .i64 a, .int .i64 b, .int .i64 c, .int .i64 (N : Int)] 23) = w0 at *
    obtain ⟨z0, z1, z2, z3⟩ := sd_cells4 HS0.out
    go_wp2_with fail
    refine (CF.out _).mono ?_
    rintro e w1 ⟨rfl, hb1⟩
    have HS1 := Lib.hid (HS0.out.next hb1 (by rfl) (by rfl) (by rfl) (by rfl))
    clear hb1 HS0 z0 z1 z2 z3
    obtain ⟨z0, z1, z2, z3⟩ := sd_cells4 HS1.out
    go_upto_region 5 with fail
    have HU := Lib.hid (heap_alloc_new w1 (.cells (bls (List.replicate N false)).toArray 4))
    have HS2 := Lib.hid (HS1.out.next ((Below.refl _ w1).alloc (Nat.le_refl _) (.cells (bls (List.replicate N false)).toArray 4)) rfl rfl rfl rfl)
    have HLT := Lib.hid HS1.out.lt
    clear hmk z0 z1 z2 z3
    generalize w1.alloc (.cells (bls (List.replicate N false)).toArray 4) = w2 at *
    go_upto_block 0 with fail
    go_cut [7] (fun v wx => ∃ (m : Nat) (lv : List Gm.R), Hid (Gath w w1 a b c N m lv v wx))
    case first =>
      go_wp2_with fail
      go_loopw [7, 9] (fun v iv wr => ∃ (i m : Nat) (lv : List Gm.R), i ≤ n ∧ iv = .int .i64 (i : Int) ∧ Hid (Gath w w1 a b c N m lv v wr)) (fun _ i _ => n - (intOf i).toNat)
      case atStart => exact ⟨0, 0, [], Nat.zero_le _, rfl, rfl, by omega, (fun r h => by cases h), ARow.nil _ _, ⟨_, List.length_replicate, HU.out⟩, HS2.out⟩
      case round =>
        clear HS1 HS2 HU
        obtain ⟨i, m, lv, hi, rfl, HG⟩ := hrel
        obtain ⟨hlen, hm1, hall, hr, ⟨u, hu, huw⟩, hsw⟩ := HG.out
        obtain ⟨A1, c1, rfl, hs1, ha1⟩ := hr.open_
        have HR := Lib.hid hr
        have HS := Lib.hid hsw
        have HUW := Lib.hid huw
        have HALL := Lib.hid hall
        have HLV := Lib.hid hlen
        have HUL := Lib.hid hu
        clear hr hsw huw hall hlen ha1 hs1 hu
        obtain ⟨z0, z1, z2, z3⟩ := sd_cells4 HS.out
        have q1 : wrap64 ((N : Int) - 1) = (N : Int) - 1 := by unfold wrap64; omega
        by_cases h1 : i < n ∧ m + 1 < N
        · obtain ⟨h1, h2⟩ := h1
          have d1 : decide ((i : Int) < (n : Int)) = true := decide_eq_true (by omega)
          have d2 : decide ((m : Int) < (N : Int) - 1) = true := decide_eq_true (by omega)
          obtain ⟨ad, rfl⟩ := hb.out.some (k := i) (by rw [hl.out]; exact h1)
          have y0 := ints_at (hb.out.below HS.out.2 (Nat.le_refl _)) i (by rw [hl.out]; exact h1)
          obtain ⟨x, hx⟩ : ∃ x, l.getD i 0 = x := ⟨_, rfl⟩
          rw [hx] at y0
          clear hx
          obtain ⟨j, hj, hmod⟩ := sl_mod x N (by omega)
          have hjN : j < N := by omega
          have hN0 : ¬ (N : Int) = 0 := by omega
          go_upto_region 8 with fail
          go_quiet (fail)
          go_upto_region 9 with fail
          have HSQ : Hid (Sd w w.heap.size (.cells #[.int .i64 a, .int .i64 b, .int .i64 c, .int .i64 (N : Int)] 23 (0, 0)) (wr.drewN nq)) := sd_run HS.out nq
          have HRQ : Hid (ARow regS 40 (wr.drewN nq) (w1.heap.size + 1) (.slice A1 m c1) m lv) := HR.out.heap rfl
          have HUQ : Hid ((wr.drewN nq).heap[w1.heap.size]? = some (.cells (bls u).toArray 4 (0, 0))) := HUW.out
          clear HS HR HUW HG z0 z1 z2 z3 y0 hmod
          generalize wr.drewN nq = wq at *
          have y0 := bls_at HUQ.out j (by rw [HUL.out]; exact hjN)
          cases hfl : u.getD j true with
          | true =>
            rw [hfl] at y0
            go_wp2_with fail
            exact ⟨⟨i + 1, m, lv, by omega, by go_num, HLV.out, hm1, HALL.out, HRQ.out, ⟨u, HUL.out, HUQ.out⟩, HSQ.out⟩, by simp [intOf]; omega⟩
          | false =>
            rw [hfl] at y0
            have f0 : wq.frozen? ⟨w1.heap.size, j, none⟩ = false := frozen_of_row _ _ _ _ _ HUQ.out
            have HSS : Hid (Sd w w.heap.size (.cells #[.int .i64 a, .int .i64 b, .int .i64 c, .int .i64 (N : Int)] 23 (0, 0)) (wq.setCell ⟨w1.heap.size, j, none⟩ (.bool true))) := ⟨set_past HSQ.out.1 (by have := HLT.out; omega) j (.bool true), HSQ.out.2.setCell (Nat.le_of_lt HLT.out) _⟩
            have HRS := Lib.hid (ord_past HRQ.out (g := w1.heap.size) (Nat.lt_succ_self _) j (.bool true))
            have HUS := Lib.hid (bls_set HUQ.out j)
            go_upto_region 11 with fail
            clear HSQ HRQ HUQ f0 y0
            generalize wq.setCell ⟨w1.heap.size, j, none⟩ (.bool true) = ws at *
            obtain ⟨z0, z1, z2, z3⟩ := sd_cells4 HSS.out
            have q2 : wrap64 ((i : Int) + 1) = (i : Int) + 1 := by unfold wrap64; omega
            have HSB : Hid (Sd w w.heap.size _ (ws.alloc (.cells #[.int .i64 0, .int .i64 (j : Int), .int .i64 0, .int .i64 ((i : Int) + 1), .int .i64 0, .int .i64 0, .int .i64 a, .int .i64 b, .int .i64 c, .int .i64 (N : Int)] 40))) := HSS.out.next ((Below.refl _ ws).alloc (Nat.le_refl _) _) rfl rfl rfl rfl
            have HRB := Lib.hid (HRS.out.made (.cells #[.int .i64 0, .int .i64 (j : Int), .int .i64 0, .int .i64 ((i : Int) + 1), .int .i64 0, .int .i64 0, .int .i64 a, .int .i64 b, .int .i64 c, .int .i64 (N : Int)] 40))
            have HUB := Lib.hid ((heap_alloc_old ws (.cells #[.int .i64 0, .int .i64 (j : Int), .int .i64 0, .int .i64 ((i : Int) + 1), .int .i64 0, .int .i64 0, .int .i64 a, .int .i64 b, .int .i64 c, .int .i64 (N : Int)] 40) (Array.getElem?_eq_some_iff.1 HUS.out).1).trans HUS.out)
            have HGB : Hid ((ws.alloc (.cells #[.int .i64 0, .int .i64 (j : Int), .int .i64 0, .int .i64 ((i : Int) + 1), .int .i64 0, .int .i64 0, .int .i64 a, .int .i64 b, .int .i64 c, .int .i64 (N : Int)] 40)).heap[ws.heap.size]? = some (.cells (regS.cs ⟨0, (j : Int), 0, (i : Int) + 1, 0, 0, ⟨a, b, c, (N : Int)⟩⟩).toArray 40 (0, 0))) := heap_alloc_new _ _
            have HZS : Hid (w1.heap.size + 1 ≤ (ws.alloc (.cells #[.int .i64 0, .int .i64 (j : Int), .int .i64 0, .int .i64 ((i : Int) + 1), .int .i64 0, .int .i64 0, .int .i64 a, .int .i64 b, .int .i64 c, .int .i64 (N : Int)] 40)).heap.size) := Nat.succ_le_of_lt (Array.getElem?_eq_some_iff.1 HUB.out).1
            clear HSS HRS HUS
            go_wp2_with (at_builtin; refine wpList_append_arr (S := regS) 24 Try.underlying24 info_reg rfl rfl (.tmp 56) (.tmp 63) rfl ws.heap.size 1 ⟨0, (j : Int), 0, (i : Int) + 1, 0, 0, ⟨a, b, c, (N : Int)⟩⟩ rfl HRB.out rfl HGB.out (by unfold maxLen; omega) (by omega) HZS.out ?_; intro v4 w4 hr4 hb4 hx4)
            have HR4 := Lib.hid hr4
            have HS4 : Hid (Sd w w.heap.size _ w4) := ⟨block_next HSB.out.1 hb4 (Nat.lt_succ_of_lt HLT.out), HSB.out.2.trans (hb4.mono (Nat.le_succ_of_le (Nat.le_of_lt HLT.out)))⟩
            have HU4 := Lib.hid (block_next HUB.out hb4 (Nat.lt_succ_self _))
            clear hr4 hb4 hx4 HRB HGB HSB HUB
            go_wp2_with fail
            exact ⟨⟨i + 1, m + 1, lv ++ [⟨0, (j : Int), 0, (i : Int) + 1, 0, 0, ⟨a, b, c, (N : Int)⟩⟩], by omega, by go_num, by rw [List.length_append, HLV.out]; rfl, by omega, (fun r hr => by
              rcases List.mem_append.1 hr with h | h
              · exact HALL.out r h
              · rw [List.mem_singleton.1 h]), HR4.out, ⟨_, (List.length_set ..).trans HUL.out, HU4.out⟩, HS4.out⟩, by simp [intOf]; omega⟩
        · rcases (show ¬ i < n ∨ (i < n ∧ ¬ m + 1 < N) by omega) with h2 | ⟨h2, h3⟩
          · have d1 : decide ((i : Int) < (n : Int)) = false := decide_eq_false (by omega)
            go_wp2_with fail
            go_meet
            exact ⟨m, lv, HG⟩
          · have d1 : decide ((i : Int) < (n : Int)) = true := decide_eq_true (by omega)
            have d2 : decide ((m : Int) < (N : Int) - 1) = false := decide_eq_false (by omega)
            go_wp2_with fail
            go_meet
            exact ⟨m, lv, HG⟩
    case rest =>
      obtain ⟨m, lv, HG⟩ := hcut
      clear HS1 HS2 HU
      obtain ⟨hlen, hm1, hall, hr, -, hsw⟩ := HG.out
      obtain ⟨A1, c1, rfl, hs1, ha1⟩ := hr.open_
      have HS := Lib.hid hsw
      have HA := Lib.hid ha1
      have HALL := Lib.hid hall
      have HLV := Lib.hid hlen
      clear hr hsw hall hlen ha1 hs1 HG
      generalize wc = w3 at *
      obtain ⟨z0, z1, z2, z3⟩ := sd_cells4 HS.out
      have hab : 1 ≤ a ∧ a ≤ 4294967295 := HF.out.1
      have q1 : wrap64 (a + 1) = a + 1 := by unfold wrap64; omega
      go_upto_region 14 with fail
      have HT := Lib.hid (heap_alloc_new w3 (.cells #[.int .i64 (a + 1), .int .i64 b, .int .i64 c, .int .i64 (N : Int)] 23))
      have HS4 := Lib.hid (HS.out.next ((Below.refl _ w3).alloc (Nat.le_refl _) (.cells #[.int .i64 (a + 1), .int .i64 b, .int .i64 c, .int .i64 (N : Int)] 23)) rfl rfl rfl rfl)
      have HA4 : Hid (Arr regS (w3.alloc (.cells #[.int .i64 (a + 1), .int .i64 b, .int .i64 c, .int .i64 (N : Int)] 23)) (w1.heap.size + 1) w3.heap.size A1 lv) := HA.out.below ((Below.refl _ w3).alloc (Nat.le_refl _) _) (Nat.le_refl _)
      have HLT3 : Hid (w.heap.size < w3.heap.size) := HS.out.lt
      clear HS HA z0 z1 z2 z3 q1
      generalize w3.alloc (.cells #[.int .i64 (a + 1), .int .i64 b, .int .i64 c, .int .i64 (N : Int)] 23) = w4 at *
      obtain ⟨z0, z1, z2, z3⟩ := sd_cells4 HS4.out
      obtain ⟨y0, y1, y2, y3⟩ := four_cells HT.out
      have f3 : w4.frozen? ⟨w3.heap.size, 3, none⟩ = false := frozen_of_row _ _ _ _ _ HT.out
      obtain ⟨q, hq, hb7⟩ := sl_and more 7 7 (by decide) (by decide)
      have q1 : wrap64 ((N : Int) + (q : Int)) = (N : Int) + (q : Int) := by unfold wrap64; omega
      obtain ⟨M, hM⟩ : ∃ M : Nat, ((N + q ≤ 16 ∧ M = N + q) ∨ (16 < N + q ∧ M = 16)) := by
        by_cases h : N + q ≤ 16
        · exact ⟨_, .inl ⟨h, rfl⟩⟩
        · exact ⟨_, .inr ⟨by omega, rfl⟩⟩
      have hNM : N ≤ M ∧ M ≤ 16 := by omega
      have hif : (if (N : Int) + (q : Int) < 16 then (N : Int) + (q : Int) else 16) = (M : Int) := by split <;> omega
      have hif2 : min 16 ((N : Int) + (q : Int)) = (M : Int) := by omega
      go_upto_region 15 with fail
      have hbs : Below w3.heap.size w4 (w4.setCell ⟨w3.heap.size, 3, none⟩ (.int .i64 (M : Int))) := (Below.refl w3.heap.size w4).setCell (show w3.heap.size ≤ (⟨w3.heap.size, 3, none⟩ : Addr).block from Nat.le_refl _) _
      have HT5 : Hid ((w4.setCell ⟨w3.heap.size, 3, none⟩ (.int .i64 (M : Int))).heap[w3.heap.size]? = some (.cells #[.int .i64 (a + 1), .int .i64 b, .int .i64 c, .int .i64 (M : Int)] 23 (0, 0))) := set_at (cs := [.int .i64 (a + 1), .int .i64 b, .int .i64 c, .int .i64 (N : Int)]) HT.out 3 (.int .i64 (M : Int))
      have HB5 : Hid (Below w.heap.size w (w4.setCell ⟨w3.heap.size, 3, none⟩ (.int .i64 (M : Int)))) := HS4.out.2.trans (hbs.mono (Nat.le_of_lt HLT3.out))
      have HA5 : Hid (Arr regS (w4.setCell ⟨w3.heap.size, 3, none⟩ (.int .i64 (M : Int))) (w1.heap.size + 1) w3.heap.size A1 lv) := HA4.out.below hbs (Nat.le_refl _)
      have HZ5 : Hid (w3.heap.size < (w4.setCell ⟨w3.heap.size, 3, none⟩ (.int .i64 (M : Int))).heap.size) := (Array.getElem?_eq_some_iff.1 HT5.out).1
      clear hbs HT HS4 HA4 z0 z1 z2 z3 y0 y1 y2 y3 f3 hb7 hif hif2 q1
      generalize w4.setCell ⟨w3.heap.size, 3, none⟩ (.int .i64 (M : Int)) = w5 at *
      obtain ⟨y0, y1, y2, y3⟩ := four_cells HT5.out
      have CF2 := Lib.hid (fun W => refsbform_any (a + 1) b c (M : Int) W)
      by_cases hf2 : Sb.form ⟨a + 1, b, c, (M : Int)⟩
      · rw [decide_eq_true hf2] at CF2
        have hfree : Gm.free ⟨a + 1, b, c, (M : Int)⟩ lv ≠ [] := Sl.free_some hf2 (fun r hr s ho => by
          rw [HALL.out r hr] at ho
          exact Sl.over_same (t := ⟨a + 1, b, c, (M : Int)⟩) (l := ⟨a, b, c, (N : Int)⟩) rfl ho) (by rw [HLV.out]; show (m : Int) < (M : Int); omega)
        obtain ⟨k0, k1, -⟩ := Sl.choose_ok hfree
        have hcut : Sl.cut ⟨a + 1, b, c, (M : Int)⟩ (Sl.order lv) = 0 := by
          rw [Sl.cut_same (t := ⟨a + 1, b, c, (M : Int)⟩) (l := ⟨a, b, c, (N : Int)⟩) hf2 HF.out rfl (fun r hr => HALL.out r (Sl.mem_order.1 hr)), Sl.order_length, HLV.out]
          show m - ((M : Int) - 1).toNat = 0
          omega
        have CC : Hid (∀ W, Below w5.heap.size w5 W → Calls Try.prog 16 #[.agg #[.int .i64 (a + 1), .int .i64 b, .int .i64 c, .int .i64 (M : Int)], .slice A1 m c1] W fun e w' => e = .returned (.tuple #[.int .i64 (Sl.choose ⟨a + 1, b, c, (M : Int)⟩ lv), .bool true]) ∧ Below W.heap.size W w') := fun W hW => by
          have h := slchoose_any (a + 1) b c (M : Int) A1 (w1.heap.size + 1) w3.heap.size m c1 lv W (Nat.le_trans (Nat.le_of_lt HZ5.out) hW.size) HLV (by omega) (Lib.hid (HA5.out.below hW (Nat.le_of_lt HZ5.out)))
          rwa [decide_eq_true hfree] at h
        have CX : Hid (∀ W, Below w5.heap.size w5 W → Calls Try.prog 20 #[.agg #[.int .i64 (a + 1), .int .i64 b, .int .i64 c, .int .i64 (M : Int)], .slice A1 m c1] W fun e w' => e = .returned (.int .i64 0) ∧ Below W.heap.size W w') := fun W hW => by
          have h := slcut_any (a + 1) b c (M : Int) A1 (w1.heap.size + 1) w3.heap.size m c1 lv W (Nat.le_trans (Nat.le_of_lt HZ5.out) hW.size) HLV (by omega) (Lib.hid (HA5.out.below hW (Nat.le_of_lt HZ5.out)))
          rwa [hcut] at h
        have hk1 : decide (Sl.choose ⟨a + 1, b, c, (M : Int)⟩ lv < (M : Int)) = true := decide_eq_true k1
        have hk0 : decide (0 ≤ Sl.choose ⟨a + 1, b, c, (M : Int)⟩ lv) = true := decide_eq_true k0
        clear hfree hcut k0 k1 hf2 HALL HLV HA5
        generalize Sl.choose ⟨a + 1, b, c, (M : Int)⟩ lv = x at *
        go_wp2_with fail
        refine (CF2.out _).mono ?_
        rintro e w6 ⟨rfl, hb6⟩
        have HX6 := Lib.hid hb6
        have HT6 := Lib.hid (block_next HT5.out hb6 HZ5.out)
        clear y0 y1 y2 y3 hb6
        obtain ⟨y0, y1, y2, y3⟩ := four_cells HT6.out
        go_wp2_with fail
        refine (CC.out _ HX6.out).mono ?_
        rintro e w7 ⟨rfl, hb7⟩
        have HX7 := Lib.hid (HX6.out.trans (hb7.mono HX6.out.size))
        clear y0 y1 y2 y3 hb7
        have HT7 := Lib.hid (block_next HT5.out HX7.out HZ5.out)
        go_wp2_with fail
        refine (CA.out _).mono ?_
        rintro e w8 ⟨rfl, hb8⟩
        have HX8 := Lib.hid (HX7.out.trans (hb8.mono HX7.out.size))
        clear hb8 HT7
        have HT8 := Lib.hid (block_next HT5.out HX8.out HZ5.out)
        obtain ⟨y0, y1, y2, y3⟩ := four_cells HT8.out
        go_wp2_with fail
        refine (CX.out _ HX8.out).mono ?_
        rintro e w9 ⟨rfl, hb9⟩
        have HX9 := Lib.hid (HX8.out.trans (hb9.mono HX8.out.size))
        clear y0 y1 y2 y3 hb9
        have HT9 := Lib.hid (block_next HT5.out HX9.out HZ5.out)
        obtain ⟨y0, y1, y2, y3⟩ := four_cells HT9.out
        go_wp2
        go_ret
        exact ⟨rfl, HB5.out.trans (HX9.out.mono HB5.out.size)⟩
      · rw [decide_eq_false hf2] at CF2
        go_wp2_with fail
        refine (CF2.out _).mono ?_
        rintro e w6 ⟨rfl, hb6⟩
        have HB6 := Lib.hid (HB5.out.trans (hb6.mono HB5.out.size))
        clear hb6
        go_wp2_with fail
        refine (CA.out _).mono ?_
        rintro e w7 ⟨rfl, hb7⟩
        have HB7 := Lib.hid (HB6.out.trans (hb7.mono HB6.out.size))
        go_wp2
        go_ret
        exact ⟨rfl, HB7.out⟩
  · rw [decide_eq_false hf] at CF
    clear hf
    go_enter Try.func5, Try.ntmps5
    go_upto_region 1 with fail
    generalize w.alloc (.cells #[.int .i64 a, .int .i64 b, .int .i64 c, .int .i64 d] 23) = w0 at *
    obtain ⟨z0, z1, z2, z3⟩ := sd_cells4 HS0.out
    go_wp2_with fail
    refine (CF.out _).mono ?_
    rintro e w1 ⟨rfl, hb1⟩
    have HS1 := Lib.hid (HS0.out.next hb1 (by rfl) (by rfl) (by rfl) (by rfl))
    clear hb1
    go_wp2_with fail
    refine (CA.out _).mono ?_
    rintro e w2 ⟨rfl, hb2⟩
    have HS2 := Lib.hid (HS1.out.next hb2 (by rfl) (by rfl) (by rfl) (by rfl))
    go_wp2
    go_ret
    exact ⟨rfl, HS2.out.2⟩
end Go.Proofs.Ytmkilbogdenljaa
