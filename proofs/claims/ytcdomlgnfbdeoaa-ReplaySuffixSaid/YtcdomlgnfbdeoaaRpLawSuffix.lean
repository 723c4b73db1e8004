/-
  The walk of the law ReplaySuffix.
-/
import Derived.Test.YtcdomlgnfbdeoaaRpSeq
set_option maxRecDepth 100000
namespace Go.Proofs.Ytcdomlgnfbdeoaa
open Go.RowKit
/-- A number folded into 0 to K - 1. -/
theorem rp_mod (x : Int) (m : Nat) : ∃ X : Int, x.tmod ((m : Int) + 1) = X ∧ -((m : Int) + 1) < X ∧ X < (m : Int) + 1 ∧ ∃ j : Nat, j ≤ m ∧ (X + (m : Int) + 1).tmod ((m : Int) + 1) = (j : Int) := by
  have h2 : x.tmod ((m : Int) + 1) < (m : Int) + 1 := Int.tmod_lt_of_pos x (by omega)
  have h3 : -((m : Int) + 1) < x.tmod ((m : Int) + 1) := Int.lt_tmod_of_pos x (by omega)
  have h5 : 0 ≤ (x.tmod ((m : Int) + 1) + (m : Int) + 1).tmod ((m : Int) + 1) := Int.tmod_nonneg _ (by omega)
  have h6 : (x.tmod ((m : Int) + 1) + (m : Int) + 1).tmod ((m : Int) + 1) < (m : Int) + 1 := Int.tmod_lt_of_pos _ (by omega)
  exact ⟨_, rfl, h3, h2, ((x.tmod ((m : Int) + 1) + (m : Int) + 1).tmod ((m : Int) + 1)).toNat, by omega, by omega⟩
set_option maxHeartbeats 4000000 in
theorem replaysuffix_any (kk now : Int) (A : Option Addr) (n cap : Nat) (l : List Bt) (w : World) (hs : SlIs A n cap) (hn : Hid (l.length = n)) (hb : Hid (BtsAt w w.heap.size A l)) :
    Calls Try.prog 4 #[.slice A n cap, .int .i64 kk, .int .i64 now] w fun e w' => e = .returned (.bool true) ∧ Below w.heap.size w w' := by
  have CS := Lib.hid (short22_any A n cap l w hs hn hb)
  have CA := Lib.hid (fun W => rpawake_any W)
  clear hn hb
  go_enter Try.func4, Try.ntmps4
  go_wp2_with fail
  refine CS.out.mono ?_
  rintro e w1 ⟨av, bv, l', rfl, hst, hl5, hb1⟩
  have HB1 := Lib.hid hb1
  have HSA := Lib.hid hst.first
  obtain ⟨-, -, A1, c1, rfl, hs1, hA1, -⟩ := hst.first.read hb1.size
  obtain ⟨m, hm⟩ : ∃ m, l'.length = m := ⟨_, rfl⟩
  rw [hm] at hl5 hs1 HSA ⊢
  have HM := Lib.hid hm
  have HSL := Lib.hid hs1
  have hmc := hs1.2.1
  clear hb1 hst hm hs1 CS
  go_upto_block 0 with fail
  go_cut [7] (fun v wx => v = .slice A1 m c1 ∧ Hid (ShA w.heap.size wx (.slice A1 m c1) (numd l' m)) ∧ Hid (Below w.heap.size w wx))
  case first =>
    go_wp2_with fail
    go_loopw [20] (fun iv wr => ∃ i : Nat, i ≤ m ∧ iv = .int .i64 (i : Int) ∧ Hid (ShA w.heap.size wr (.slice A1 m c1) (numd l' i)) ∧ Hid (Below w.heap.size w wr)) (fun i _ => m - (intOf i).toNat)
    case atStart => exact ⟨0, Nat.zero_le _, rfl, by rw [numd_zero]; exact HSA, HB1⟩
    case round =>
      clear HSA HB1
      obtain ⟨i, hi, rfl, HSA, HB⟩ := hrel
      generalize wr = wo at *
      by_cases hlt : i < m
      · obtain ⟨g, rfl⟩ : ∃ g, A1 = some ⟨g, 0, none⟩ := by
          rcases hA1 with h | h
          · have := HSL.out.1 h
            omega
          · exact h
        have hll : i < (numd l' i).length := by rw [numd_length, HM.out]; exact hlt
        obtain ⟨-, -, A2, c2, e2, -, -, hbt⟩ := HSA.out.read HB.out.size
        injection e2 with e2 e3 e4
        subst e2
        obtain ⟨b, hbb⟩ : ∃ b, (numd l' i).getD i Bt0 = b := ⟨_, rfl⟩
        obtain ⟨z0, -⟩ := bts_at hbt.1 i hll b hbb
        rw [arr_flat, Nat.zero_add] at z0
        have f0 : wo.frozen? ⟨g, i * 2, none⟩ = false := by
          rcases HSA.out.ra.2 with ⟨e, -⟩ | ⟨g', cap', cur, e, -, hg, -⟩
          · cases e
          · injection e with e1
            injection e1 with e1
            injection e1 with e1
            subst e1
            exact frozen_of_row _ _ _ _ _ hg
        have HP := Lib.hid (HSA.out.put i hll ((i : Int) + 1))
        rw [numd_next l' i (by rw [HM.out]; exact hlt)] at HP
        have HN : Hid (w.heap.size ≤ g) := HSA.out.oa g rfl
        have HBP : Hid (Below w.heap.size w (wo.setCell ⟨g, i * 2, none⟩ (.int .i64 ((i : Int) + 1)))) := HB.out.setCell (show w.heap.size ≤ (⟨g, i * 2, none⟩ : Addr).block from HN.out) _
        have q1 : wrap64 ((i : Int) + 1) = (i : Int) + 1 := by unfold wrap64; omega
        clear hbt hbb
        go_wp2_with fail
        exact ⟨⟨i + 1, by omega, by go_num, HP.out, HBP.out⟩, by simp [intOf] <;> omega⟩
      · obtain rfl : i = m := by omega
        go_wp2_with fail
        go_meet
        exact ⟨rfl, HSA, HB⟩
  case rest =>
    obtain ⟨rfl, HSA2, HBX⟩ := hcut
    clear HSA HB1
    generalize wc = w2 at *
    obtain ⟨hf8, hk10, A2, c2, e2, hs2, -, hbt⟩ := HSA2.out.read HBX.out.size
    rw [numd_length, HM.out] at e2 hs2
    injection e2 with e2 e3 e4
    subst e2 e4
    have HF8 := Lib.hid hf8
    have HK10 := Lib.hid hk10
    have HA1 := Lib.hid hbt
    have HML : Hid ((numd l' m).length = m) := (numd_length _ _).trans HM.out
    obtain ⟨X, hX, hX1, hX2, j, hj, hjX⟩ := rp_mod kk m
    have q0 : ¬ (m : Int) + 1 = 0 := by omega
    have q1 : wrap64 (X + (m : Int)) = X + (m : Int) := by unfold wrap64; omega
    have q2 : wrap64 (X + (m : Int) + 1) = X + (m : Int) + 1 := by unfold wrap64; omega
    have q3 : wrap64 ((m : Int) + 1) = (m : Int) + 1 := by unfold wrap64; omega
    clear hf8 hk10 hs2 hbt
    go_wp2_with fail
    refine (rpmap_any A1 w2.heap.size m c1 (numd l' m) now w2 HSL.out (Nat.le_refl _) HML (by omega) HF8 HK10 HA1).mono ?_
    rintro e w3 ⟨L, hI, hL, A3, c3, rfl, hs3, hn3, ha3, hb3⟩
    have HB3 := Lib.hid hb3
    have HI := Lib.hid hI
    have HA3 := Lib.hid ha3
    obtain ⟨N, hN⟩ : ∃ N, L.length = N := ⟨_, rfl⟩
    rw [hN] at hL ⊢
    have HN := Lib.hid hN
    have hc3 : N ≤ c3 := by rw [← hN]; exact hs3.2.1
    have HEND : Hid ((L.take N).filter (fun q => decide ((j : Int) < q.2.seq)) = L.filter (fun q => decide ((j : Int) < q.2.seq))) := by
      show _ = _
      rw [List.take_of_length_le (by rw [HN.out]; exact Nat.le_refl _)]
    clear hI ha3 hn3 hs3 hb3 hN
    go_wp2_with fail
    go_loopw [10, 47] (fun v iv wr => ∃ i : Nat, i ≤ N ∧ iv = .int .i64 (i : Int) ∧ Hid (ARow prS 38 wr w3.heap.size v ((L.take i).filter (fun q => decide ((j : Int) < q.2.seq))).length ((L.take i).filter (fun q => decide ((j : Int) < q.2.seq)))) ∧ Hid (Below w3.heap.size w3 wr)) (fun _ i _ => N - (intOf i).toNat)
    case atStart => exact ⟨0, Nat.zero_le _, rfl, ARow.nil _ _, Below.refl _ _⟩
    case round =>
      obtain ⟨i, hi, rfl, HR, HB⟩ := hrel
      generalize wr = wo at *
      by_cases hlt : i < N
      · obtain ⟨ad, rfl⟩ := HA3.out.some (k := i) (by rw [HN.out]; exact hlt)
        obtain ⟨⟨pk, e0, e1, e2, e3, e4⟩, hp⟩ : ∃ p, L.getD i Tb.Pr0 = p := ⟨_, rfl⟩
        obtain ⟨m0, m1, m2, m3, m4, m5⟩ := prs_six (HA3.out.below HB.out (Nat.le_refl _)) i (by rw [HN.out]; exact hlt) _ hp
        simp only at m0 m1 m2 m3 m4 m5
        have HNX := Lib.hid (filt_next (L := L) (k := i) (fun e => decide ((j : Int) < e.seq)) (by rw [HN.out]; exact hlt))
        rw [hp] at HNX
        have hfl : ((L.take i).filter (fun q => decide ((j : Int) < q.2.seq))).length ≤ 1000 := by
          have := List.length_filter_le (fun q : Tb.Pr => decide ((j : Int) < q.2.seq)) (L.take i)
          rw [List.length_take] at this
          omega
        obtain ⟨A9, c9, rfl, -⟩ := HR.out.open_
        clear hp
        go_upto_region 12 with fail
        have HX := Lib.hid (heap_alloc_new wo (.cells #[.string pk, .int .i64 e0, .int .i64 e1, .int .i64 e2, .int .i64 e3, .bool e4] 38))
        have HRA := Lib.hid (HR.out.made (.cells #[.string pk, .int .i64 e0, .int .i64 e1, .int .i64 e2, .int .i64 e3, .bool e4] 38))
        have HBA : Hid (Below w3.heap.size w3 (wo.alloc (.cells #[.string pk, .int .i64 e0, .int .i64 e1, .int .i64 e2, .int .i64 e3, .bool e4] 38))) := HB.out.alloc HB.out.size _
        clear HR HB m0 m1 m2 m3 m4 m5
        generalize wo.alloc (.cells #[.string pk, .int .i64 e0, .int .i64 e1, .int .i64 e2, .int .i64 e3, .bool e4] 38) = wa at *
        obtain ⟨y0, y1, y2, y3, y4, y5⟩ := six_cells HX.out
        cases hal : decide ((j : Int) < e0) with
        | true =>
          have c1' : decide (e0 > (j : Int)) = true := hal
          simp only at HNX
          rw [hal, if_pos rfl] at HNX
          have HRB := Lib.hid (HRA.out.made (.cells #[.string pk, .int .i64 e0, .int .i64 e1, .int .i64 e2, .int .i64 e3, .bool e4] 38))
          have HGB : Hid ((wa.alloc (.cells #[.string pk, .int .i64 e0, .int .i64 e1, .int .i64 e2, .int .i64 e3, .bool e4] 38)).heap[wa.heap.size]? = some (.cells (prS.cs (pk, ⟨e0, e1, e2, e3, e4⟩)).toArray 38 (0, 0))) := heap_alloc_new _ _
          have HBB : Hid (Below w3.heap.size w3 (wa.alloc (.cells #[.string pk, .int .i64 e0, .int .i64 e1, .int .i64 e2, .int .i64 e3, .bool e4] 38))) := HBA.out.alloc HBA.out.size _
          clear HRA HBA HX hal
          go_wp2_with (at_builtin; refine wpList_append_arr (S := prS) 28 Try.underlying28 info_pair rfl rfl (.tmp 56) (.tmp 58) rfl wa.heap.size 1 (pk, ⟨e0, e1, e2, e3, e4⟩) rfl HRB.out rfl HGB.out (by unfold maxLen; omega) (by omega) HBB.out.size ?_; intro v4 w4 hr4 hb4 hx4)
          have HR4 : Hid (ARow prS 38 w4 w3.heap.size v4 ((L.take (i + 1)).filter (fun q => decide ((j : Int) < q.2.seq))).length ((L.take (i + 1)).filter (fun q => decide ((j : Int) < q.2.seq)))) := by
            rw [HNX.out, List.length_append]
            exact hr4
          have HB4 : Hid (Below w3.heap.size w3 w4) := HBB.out.trans hb4
          clear hr4 hb4 hx4 HRB HGB HBB y0 y1 y2 y3 y4 y5
          go_wp2_with fail
          exact ⟨⟨i + 1, by omega, by go_num, HR4.out, HB4.out⟩, by simp [intOf] <;> omega⟩
        | false =>
          have c1' : decide (e0 > (j : Int)) = false := hal
          simp only at HNX
          rw [hal, if_neg (by decide), List.append_nil] at HNX
          have HR4 : Hid (ARow prS 38 wa w3.heap.size (.slice A9 ((L.take i).filter (fun q => decide ((j : Int) < q.2.seq))).length c9) ((L.take (i + 1)).filter (fun q => decide ((j : Int) < q.2.seq))).length ((L.take (i + 1)).filter (fun q => decide ((j : Int) < q.2.seq)))) := by
            rw [HNX.out]
            exact HRA.out
          clear HX
          go_wp2_with fail
          exact ⟨⟨i + 1, by omega, by go_num, HR4.out, HBA.out⟩, by simp [intOf] <;> omega⟩
      · obtain rfl : i = N := by omega
        have HRL : Hid (ARow prS 38 wo w3.heap.size u10 (L.filter (fun q => decide ((j : Int) < q.2.seq))).length (L.filter (fun q => decide ((j : Int) < q.2.seq)))) := by
          rw [← HEND.out]
          exact HR.out
        have hle : (L.filter (fun q => decide ((j : Int) < q.2.seq))).length ≤ 1000 := Nat.le_trans (List.length_filter_le _ _) (by rw [HN.out]; exact hL)
        have HI2 : Hid (Rp.Is (L.filter (fun q => decide ((j : Int) < q.2.seq))) (Rp.out now (Rp.fin (fsOf ((numd l' m).drop j))))) := (HI.out.filter (fun e => decide ((j : Int) < e.seq))).congr fun k => by
          have h := numd_two l' j
          rw [HM.out] at h
          have e := Rp.fin_rest h.1 h.2 now k
          rw [← fsOf_append, List.take_append_drop] at e
          exact e
        have HBO : Hid (Below w2.heap.size w2 wo) := HB3.out.trans (HB.out.mono HB3.out.size)
        clear HR HB HEND
        have HDL : Hid (((numd l' m).drop j).length = m - j) := by show _ = _; rw [List.length_drop, HML.out]
        have HFD : Hid (∀ b ∈ (numd l' m).drop j, b.fds.length ≤ 8) := fun b hb => HF8.out b (List.mem_of_mem_drop hb)
        have HKD : Hid (∀ b ∈ (numd l' m).drop j, ∀ f ∈ b.fds, f.rd.n1 ≤ 10) := fun b hb => HK10.out b (List.mem_of_mem_drop hb)
        have hcap63 := HSL.out.2.2
        by_cases hjm : j = m
        · subst hjm
          have HNIL : Hid ((numd l' j).drop j = []) := List.length_eq_zero_iff.1 (by rw [HDL.out, Nat.sub_self])
          have HZ : Hid (∀ (A' : Option Addr) W, BtsAt W w2.heap.size A' ((numd l' j).drop j)) := fun A' W => by
            rw [HNIL.out]
            exact ⟨Arr.nil, fun b h => (by cases h)⟩
          rcases hA1 with rfl | ⟨g, rfl⟩
          · obtain ⟨rfl, rfl⟩ := HSL.out.1 rfl
            go_wp2_with fail
            refine (CA.out _).mono ?_
            rintro e w5 ⟨rfl, hb5⟩
            have HB5 : Hid (Below w2.heap.size w2 w5) := HBO.out.trans (hb5.mono HBO.out.size)
            have HR5 := Lib.hid (HRL.out.stays hb5)
            clear hb5 HRL
            go_wp2_with fail
            refine (rpmap_any none w2.heap.size 0 0 ((numd l' 0).drop 0) now w5 ⟨(fun _ => ⟨rfl, rfl⟩), Nat.le_refl _, Nat.zero_le _⟩ HB5.out.size (Lib.hid (HDL.out.trans (by omega))) (by omega) HFD HKD (Lib.hid (HZ.out none w5))).mono ?_
            rintro e w6 ⟨L2, hI2, -, A6, c6, rfl, hs6, hn6, ha6, hb6⟩
            obtain rfl := hI2.one HI2.out
            have HB6 : Hid (Below w2.heap.size w2 w6) := HB5.out.trans (hb6.mono HB5.out.size)
            obtain ⟨A7, c7, rfl, hs7, hn7, ha7⟩ := prow_open HR5.out
            have HE := Lib.hid (prs_eq hle hs6 hs7 hn6 hn7 ha6 (ha7.below hb6 (Nat.le_refl _)))
            clear hI2 hs6 hn6 ha6 hb6 hs7 hn7 ha7 HR5
            go_wp2_with fail
            refine HE.out.mono ?_
            rintro e w7 ⟨rfl, hb7⟩
            have HB7 : Hid (Below w2.heap.size w2 w7) := HB6.out.trans (hb7.mono HB6.out.size)
            go_wp2_with fail
            go_ret
            exact ⟨rfl, HBX.out.trans (HB7.out.mono HBX.out.size)⟩
          · by_cases hcj : c1 = j
            · subst hcj
              go_wp2_with fail
              refine (CA.out _).mono ?_
              rintro e w5 ⟨rfl, hb5⟩
              have HB5 : Hid (Below w2.heap.size w2 w5) := HBO.out.trans (hb5.mono HBO.out.size)
              have HR5 := Lib.hid (HRL.out.stays hb5)
              clear hb5 HRL
              go_wp2_with fail
              refine (rpmap_any (some ⟨g, 0, none⟩) w2.heap.size 0 0 ((numd l' c1).drop c1) now w5 ⟨(fun e => by cases e), Nat.le_refl _, Nat.zero_le _⟩ HB5.out.size (Lib.hid (HDL.out.trans (by omega))) (by omega) HFD HKD (Lib.hid (HZ.out (some ⟨g, 0, none⟩) w5))).mono ?_
              rintro e w6 ⟨L2, hI2, -, A6, c6, rfl, hs6, hn6, ha6, hb6⟩
              obtain rfl := hI2.one HI2.out
              have HB6 : Hid (Below w2.heap.size w2 w6) := HB5.out.trans (hb6.mono HB5.out.size)
              obtain ⟨A7, c7, rfl, hs7, hn7, ha7⟩ := prow_open HR5.out
              have HE := Lib.hid (prs_eq hle hs6 hs7 hn6 hn7 ha6 (ha7.below hb6 (Nat.le_refl _)))
              clear hI2 hs6 hn6 ha6 hb6 hs7 hn7 ha7 HR5
              go_wp2_with fail
              refine HE.out.mono ?_
              rintro e w7 ⟨rfl, hb7⟩
              have HB7 : Hid (Below w2.heap.size w2 w7) := HB6.out.trans (hb7.mono HB6.out.size)
              go_wp2_with fail
              go_ret
              exact ⟨rfl, HBX.out.trans (HB7.out.mono HBX.out.size)⟩
            · have hdummy := hcj
              go_wp2_with fail
              refine (CA.out _).mono ?_
              rintro e w5 ⟨rfl, hb5⟩
              have HB5 : Hid (Below w2.heap.size w2 w5) := HBO.out.trans (hb5.mono HBO.out.size)
              have HR5 := Lib.hid (HRL.out.stays hb5)
              clear hb5 HRL
              go_wp2_with fail
              refine (rpmap_any (some ⟨g, j * 2, none⟩) w2.heap.size 0 (c1 - j) ((numd l' j).drop j) now w5 ⟨(fun e => by cases e), by omega, Nat.le_trans (Nat.sub_le _ _) hcap63⟩ HB5.out.size (Lib.hid (HDL.out.trans (by omega))) (by omega) HFD HKD (Lib.hid (HZ.out (some ⟨g, j * 2, none⟩) w5))).mono ?_
              rintro e w6 ⟨L2, hI2, -, A6, c6, rfl, hs6, hn6, ha6, hb6⟩
              obtain rfl := hI2.one HI2.out
              have HB6 : Hid (Below w2.heap.size w2 w6) := HB5.out.trans (hb6.mono HB5.out.size)
              obtain ⟨A7, c7, rfl, hs7, hn7, ha7⟩ := prow_open HR5.out
              have HE := Lib.hid (prs_eq hle hs6 hs7 hn6 hn7 ha6 (ha7.below hb6 (Nat.le_refl _)))
              clear hI2 hs6 hn6 ha6 hb6 hs7 hn7 ha7 HR5
              go_wp2_with fail
              refine HE.out.mono ?_
              rintro e w7 ⟨rfl, hb7⟩
              have HB7 : Hid (Below w2.heap.size w2 w7) := HB6.out.trans (hb7.mono HB6.out.size)
              go_wp2_with fail
              go_ret
              exact ⟨rfl, HBX.out.trans (HB7.out.mono HBX.out.size)⟩
        · obtain ⟨g, rfl⟩ : ∃ g, A1 = some ⟨g, 0, none⟩ := by
            rcases hA1 with h | h
            · have := (HSL.out.1 h)
              omega
            · exact h
          have hcj : ¬ c1 = j := by omega
          go_wp2_with fail
          refine (CA.out _).mono ?_
          rintro e w5 ⟨rfl, hb5⟩
          have HB5 : Hid (Below w2.heap.size w2 w5) := HBO.out.trans (hb5.mono HBO.out.size)
          have HR5 := Lib.hid (HRL.out.stays hb5)
          clear hb5 HRL
          go_wp2_with fail
          refine (rpmap_any (some ⟨g, j * 2, none⟩) w2.heap.size (m - j) (c1 - j) ((numd l' m).drop j) now w5 ⟨(fun e => by cases e), by omega, Nat.le_trans (Nat.sub_le _ _) hcap63⟩ HB5.out.size (Lib.hid (HDL.out.trans (by omega))) (by omega) HFD HKD (Lib.hid ((bats_drop HA1.out j).below HB5.out (Nat.le_refl _)))).mono ?_
          rintro e w6 ⟨L2, hI2, -, A6, c6, rfl, hs6, hn6, ha6, hb6⟩
          obtain rfl := hI2.one HI2.out
          have HB6 : Hid (Below w2.heap.size w2 w6) := HB5.out.trans (hb6.mono HB5.out.size)
          obtain ⟨A7, c7, rfl, hs7, hn7, ha7⟩ := prow_open HR5.out
          have HE := Lib.hid (prs_eq hle hs6 hs7 hn6 hn7 ha6 (ha7.below hb6 (Nat.le_refl _)))
          clear hI2 hs6 hn6 ha6 hb6 hs7 hn7 ha7 HR5
          go_wp2_with fail
          refine HE.out.mono ?_
          rintro e w7 ⟨rfl, hb7⟩
          have HB7 : Hid (Below w2.heap.size w2 w7) := HB6.out.trans (hb7.mono HB6.out.size)
          go_wp2_with fail
          go_ret
          exact ⟨rfl, HBX.out.trans (HB7.out.mono HBX.out.size)⟩
end Go.Proofs.Ytcdomlgnfbdeoaa
