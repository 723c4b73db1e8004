/-
  The reference's Put.
-/
import Derived.Test.YtkhmimdigdjajaaExRefPut
set_option maxRecDepth 100000
namespace Go.Proofs.Ytkhmimdigdjajaa
open Go.RowKit Go.Maps
set_option maxHeartbeats 8000000 in
theorem refqput_any (m : Nat) (k : ByteArray) (r : Int) (L : List Ex.On) (R : Nat → Prop) (w : World) (hL : L.length ≤ 1000) (hS : Hid (Ex.Ks L)) (hT : Hid (QR R w m L)) :
    Calls Try.prog 9 #[.pointer (some ⟨m, 0, none⟩), .string k, .int .i64 r] w (RQ R m (Ex.put L k r) w) := by
  have HM00 := Lib.hid hT.out.lt
  go_enter Try.func9, Try.ntmps9
  go_wp2_with fail
  refine (refqrem_any m k L R w hL hS hT).mono ?_
  rintro e w1 ⟨rfl, hk1, hT1⟩
  have HK1 := Lib.hid hk1
  have HSZ1 : Hid ((Ex.rem L k).length ≤ L.length) := Ex.rem_le L k
  have HM0 : Hid (m < w1.heap.size) := Nat.lt_of_lt_of_le HM00.out hk1.size
  by_cases hr1 : r < 1
  · have HE : Hid (RQ R m (Ex.put L k r) w (.returned (.tuple #[])) w1) := ⟨rfl, hk1, by unfold Ex.put; rw [if_pos hr1]; exact hT1⟩
    clear hk1 hT1
    go_wp2_with fail
    (try simp only [Exit.inBlock, Exit.then]); refine bodyPost_ret (results_none rfl _ _ _) rfl ?_
    exact HE.out
  have HPUT : Hid (Ex.put L k r = Ex.ins ⟨k, r⟩ (Ex.rem L k)) := by show _ = _; unfold Ex.put; rw [if_neg hr1]
  have hr2 : 1 ≤ r := by omega
  obtain ⟨L1, hL1⟩ : ∃ L1, Ex.rem L k = L1 := ⟨_, rfl⟩
  rw [hL1] at hT1 HSZ1 HPUT
  clear hL1 hr1
  obtain ⟨A, c, hRm, hm, hsl, hA⟩ := hT1
  obtain ⟨n, hn⟩ : ∃ n, L1.length = n := ⟨_, rfl⟩
  have HAA := Lib.hid hA
  have hcap := hsl.2.2
  have hnc := hsl.2.1
  have hnilc := hsl.1
  have c0 := one_cell_of hm
  have hn9 : n ≤ 1000 := by have := HSZ1.out; omega
  rw [hn] at hm hnc c0 hnilc
  have HRM := Lib.hid hRm
  have HHM0 := Lib.hid hm
  have HN := Lib.hid hn
  have HNIL := Lib.hid hnilc
  clear hm hsl hn hA hRm hk1 hnilc
  go_upto_block 0 with fail
  go_cut [6] (fun iv wx => ∃ i : Nat, iv = .int .i64 (i : Int) ∧ i ≤ n ∧ Hid (Ex.ins ⟨k, r⟩ L1 = L1.take i ++ (⟨k, r⟩ :: L1.drop i)) ∧ w1 = wx)
  case first =>
    go_wp2_with fail
    go_loopw [6] (fun iv wr => ∃ i : Nat, i ≤ n ∧ iv = .int .i64 (i : Int) ∧ Hid (∀ j, j < i → Ex.bf (L1.getD j Ex.On0) ⟨k, r⟩ = true) ∧ w1 = wr) (fun i _ => n - (Go.RowKit.intOf i).toNat)
    case atStart => exact ⟨0, Nat.zero_le _, rfl, fun j h => absurd h (Nat.not_lt_zero _), rfl⟩
    case round =>
      obtain ⟨i, hi, rfl, hlo, rfl⟩ := hrel
      by_cases hlt : i < n
      · have hiL : i < L1.length := by rw [HN.out]; exact hlt
        obtain ⟨g, o, rfl, hgl, hgR, hgm, hfl⟩ : ∃ g o, A = some ⟨g, o, none⟩ ∧ g < w1.heap.size ∧ Snc R w w1 g ∧ g ≠ m ∧ FlAt w1 g o (onS.flat L1) := by
          rcases HAA.out with h | h
          · have := (HNIL.out h).2; omega
          · exact h
        obtain ⟨⟨k0, r0⟩, hp⟩ : ∃ p, L1.getD i Ex.On0 = p := ⟨_, rfl⟩
        obtain ⟨m0, m1⟩ := hfl.at_ i hiL _ _ hp
        have HPP := Lib.hid hp
        have HNEXT : Hid (Ex.bf ⟨k0, r0⟩ ⟨k, r⟩ = true → ∀ j, j < i + 1 → Ex.bf (L1.getD j Ex.On0) ⟨k, r⟩ = true) := fun hn j hj => by
          rcases Nat.lt_or_ge j i with h | h
          · exact hlo.out j h
          · obtain rfl : j = i := by omega
            rw [HPP.out]; exact hn
        have HAT : Hid (Ex.bf ⟨k0, r0⟩ ⟨k, r⟩ = false → Ex.ins ⟨k, r⟩ L1 = L1.take i ++ (⟨k, r⟩ :: L1.drop i)) := fun hn => Ex.ins_at (by rw [HN.out]; exact hi) hlo.out fun _ => by rw [HPP.out]; exact hn
        clear hp hiL hfl hgl hgR hgm
        by_cases hss : r0 < r
        · have hb0 : decide (r0 < r) = true := decide_eq_true hss
          have HNX := Lib.hid (HNEXT.out (by unfold Ex.bf; rw [if_neg (show ¬ r0 = r by omega)]; exact hb0))
          clear hss
          go_wp2_with fail
          go_roundw
          case rel => exact ⟨i + 1, by omega, by go_num, HNX, trivial⟩
          case measure => simp [Go.RowKit.intOf]; omega
        · have hb0 : decide (r0 < r) = false := decide_eq_false hss
          by_cases hse : r0 = r
          · have hb1 : (r0 == r) = true := by rw [beq_iff_eq]; exact hse
            have hbf : Ex.bf ⟨k0, r0⟩ ⟨k, r⟩ = Op.bytesLess k0.toList k.toList := by rw [Lib.toList_data, Lib.toList_data]; unfold Ex.bf; rw [if_pos hse]; rfl
            cases hoo : Op.bytesLess k0.toList k.toList with
            | true =>
              have HNX := Lib.hid (HNEXT.out (hbf.trans hoo))
              clear hss hse hbf
              go_wp2_with fail
              go_roundw
              case rel => exact ⟨i + 1, by omega, by go_num, HNX, trivial⟩
              case measure => simp [Go.RowKit.intOf]; omega
            | false =>
              have HAT2 := Lib.hid (HAT.out (hbf.trans hoo))
              clear hss hse hbf
              go_wp2_with fail
              go_meet
              exact ⟨i, rfl, hi, HAT2, rfl⟩
          · have hb1 : (r0 == r) = false := by rw [beq_eq_false_iff_ne]; exact hse
            have HAT2 := Lib.hid (HAT.out (by unfold Ex.bf; rw [if_neg hse]; exact hb0))
            clear hss hse
            go_wp2_with fail
            go_meet
            exact ⟨i, rfl, hi, HAT2, rfl⟩
      · obtain rfl : i = n := by omega
        have HAT2 : Hid (Ex.ins ⟨k, r⟩ L1 = L1.take i ++ (⟨k, r⟩ :: L1.drop i)) := Ex.ins_at (by rw [HN.out]; exact Nat.le_refl _) hlo.out fun h => absurd h (by rw [HN.out]; exact Nat.lt_irrefl _)
        clear hlt
        go_wp2_with fail
        go_meet
        exact ⟨i, rfl, Nat.le_refl _, HAT2, rfl⟩
  case rest =>
    obtain ⟨i, rfl, hin, HAT, rfl⟩ := hcut
    obtain ⟨z, hz⟩ : ∃ z, w1.heap.size = z := ⟨_, rfl⟩
    have HZ := Lib.hid hz
    have HFIN : Hid (∀ w', Kept (Snc R w w1) w1 w' → (∀ L' : List Ex.On, onS.flat (L1.take i ++ [⟨k, r⟩]) ++ onS.flat (L1.drop i) = onS.flat L' → QR (Snc (Snc R w w1) w1 w') w' m L') → RQ R m (Ex.put L k r) w (.returned (.tuple #[])) w') := fun w' hk hr =>
      ⟨rfl, HK1.out.snc hk, by
        rw [HPUT.out, HAT.out]
        exact (hr (L1.take i ++ (⟨k, r⟩ :: L1.drop i)) (by rw [← onS.flat_append, List.append_assoc]; rfl)).mono fun k _ h => Snc.up HK1.out.size hk.size h⟩
    have HHM : Hid (∀ W, Kept (fun k => z ≤ k) w1 W → W.heap[m]? = some (.cells #[.slice A n c] 28 (0, 0))) := fun W hW => by
      have hl := (Array.getElem?_eq_some_iff.1 HHM0.out).1
      exact (hW.block m hl (by omega)).trans HHM0.out
    have HCM : Hid (∀ W, Kept (fun k => z ≤ k) w1 W → W.cell? ⟨m, 0, none⟩ = some (.slice A n c)) := fun W hW => one_cell_of (HHM.out W hW)
    have HFM : Hid (∀ W, Kept (fun k => z ≤ k) w1 W → W.frozen? ⟨m, 0, none⟩ = false) := fun W hW => frozen_of_row W m _ _ _ (HHM.out W hW)
    have HLT : Hid ((onS.flat (L1.take i)).length = i * 2) := on_take (by rw [HN.out]; exact hin)
    have HLD : Hid ((onS.flat (L1.drop i)).length = (n - i) * 2) := on_drop HN.out
    have HIL : Hid (i ≤ L1.length) := by show _ ≤ _; rw [HN.out]; exact hin
    have HB1 : Hid (Below w1.heap.size w1 w1) := Below.refl _ _
    clear hz
    rcases HAA.out with rfl | ⟨g, o, rfl, hgl, -, -, hfl⟩
    · obtain ⟨rfl, rfl⟩ := HNIL.out rfl
      obtain rfl : i = 0 := by omega
      clear hcap hnc hin HAA HNIL
      go_wp2_with (at_builtin; refine BigFrame.wpList_want rfl fun K hK => ?_; refine Classical.byContradiction fun hstop => ?_)
      refine hstop ?_
      refine op_append_srow (.const (.slice none 0 0)) (.tmp 63) 26 rfl 39 _ 2 24 Try.underlying26 info_on (by rfl) (by decide) (.slice none 0 0) 0 [] rfl (SRow.nil (S := fun k => z ≤ k)) _ _ _ (onS.flat (L1.take 0)) rfl (fun _ => ⟨by omega, by omega⟩) HLT.out (fun ad e => by cases e) (Shape.flat_one' onS _) (by unfold maxLen; omega) (by omega) ?_
      intro vz wz hr2 hk2
      refine hK _ _ ?_
      have HRz : Hid (SRow (fun k => z ≤ k) 39 2 wz vz 0 (onS.flat (L1.take 0))) := by rw [Nat.zero_add, List.nil_append] at hr2; exact hr2.mono fun k _ h => h.elim id fun h => by have := HZ.out; have h : w1.heap.size ≤ k := h; omega
      have HKz := Lib.hid hk2
      clear hr2 hk2 hstop hK K
      go_upto_region 6 with fail
      have HKa : Hid (Kept (fun k => z ≤ k) w1 wz.drew) := kept_drew' HKz.out
      have HRa : Hid (SRow (fun k => z ≤ k) 39 2 wz.drew vz _ _) := HRz.out.new ⟨rfl, rfl, rfl, Nat.le_refl _, fun _ _ => rfl⟩
      clear HKz HRz
      refine wp_region_held_drew (S := fun _ => True) (by kernel_rfl) (trivial) (fun hH => ?_)
      change wpAnyH _ _ _ _ _ 17 #[false, false, false, false, false, false, false, false, false, false, false, false, false, false, false, false, false] _ _
      clear hH
      generalize wz.drew = wa at *
      refine held_take (i := 0) (v := ?_) (d := some 65) rfl rfl (by kernel_rfl) (by kernel_rfl) (by kernel_rfl) (fun _ _ _ h => h) (trivial) ⟨?_, fun w hSw => ?_⟩ ?_
      rotate_left 1
      · rfl
      · (go_simp; all_goals with_reducible rfl)
      simp only [Act.put, List.setIfInBounds_toArray, List.set_cons_zero, List.set_cons_succ]
      refine held_take (i := 1) (v := ?_) (d := some 66) rfl rfl (by kernel_rfl) (by kernel_rfl) (by kernel_rfl) (fun _ _ _ h => h) (trivial) ⟨?_, fun w hSw => ?_⟩ ?_
      rotate_left 1
      · rfl
      · (go_simp; all_goals with_reducible rfl)
      simp only [Act.put, List.setIfInBounds_toArray, List.set_cons_zero, List.set_cons_succ]
      refine held_take (i := 2) (v := ?_) (d := some 67) rfl rfl (by kernel_rfl) (by kernel_rfl) (by kernel_rfl) (fun _ _ _ h => h) (trivial) ⟨?_, fun w hSw => ?_⟩ ?_
      rotate_left 1
      · rfl
      · (go_simp; all_goals with_reducible rfl)
      simp only [Act.put, List.setIfInBounds_toArray, List.set_cons_zero, List.set_cons_succ]
      refine held_take (i := 3) (v := ?_) (d := some 68) rfl rfl (by kernel_rfl) (by kernel_rfl) (by kernel_rfl) (fun _ _ _ h => h) (trivial) ⟨?_, fun w hSw => ?_⟩ ?_
      rotate_left 1
      · rfl
      · (go_simp; all_goals with_reducible rfl)
      simp only [Act.put, List.setIfInBounds_toArray, List.set_cons_zero, List.set_cons_succ]
      refine held_take (i := 4) (v := ?_) (d := some 69) rfl rfl (by kernel_rfl) (by kernel_rfl) (by kernel_rfl) (fun _ _ _ h => h) (trivial) ⟨?_, fun w hSw => ?_⟩ ?_
      rotate_left 1
      · rfl
      · (go_simp; all_goals with_reducible rfl)
      simp only [Act.put, List.setIfInBounds_toArray, List.set_cons_zero, List.set_cons_succ]
      refine held_take (i := 7) (v := ?_) (d := some 72) rfl rfl (by kernel_rfl) (by kernel_rfl) (by kernel_rfl) (fun _ _ _ h => h) (trivial) ⟨?_, fun w hSw => ?_⟩ ?_
      rotate_left 1
      · rfl
      · (go_simp; all_goals with_reducible rfl)
      simp only [Act.put, List.setIfInBounds_toArray, List.set_cons_zero, List.set_cons_succ]
      refine held_take (i := 8) (v := ?_) (d := some 73) rfl rfl (by kernel_rfl) (by kernel_rfl) (by kernel_rfl) (fun _ _ _ h => h) (trivial) ⟨?_, fun w hSw => ?_⟩ ?_
      rotate_left 1
      · rfl
      · (go_simp; all_goals with_reducible rfl)
      simp only [Act.put, List.setIfInBounds_toArray, List.set_cons_zero, List.set_cons_succ]
      refine held_take (i := 9) (v := ?_) (d := some 74) rfl rfl (by kernel_rfl) (by kernel_rfl) (by kernel_rfl) (fun _ _ _ h => h) (trivial) ⟨?_, fun w hSw => ?_⟩ ?_
      rotate_left 1
      · rfl
      · (go_simp; all_goals with_reducible rfl)
      simp only [Act.put, List.setIfInBounds_toArray, List.set_cons_zero, List.set_cons_succ]
      refine held_take (i := 11) (v := ?_) (d := some 76) rfl rfl (by kernel_rfl) (by kernel_rfl) (by kernel_rfl) (fun _ _ _ h => h) (trivial) ⟨?_, fun w hSw => ?_⟩ ?_
      rotate_left 1
      · rfl
      · (go_simp; all_goals with_reducible rfl)
      simp only [Act.put, List.setIfInBounds_toArray, List.set_cons_zero, List.set_cons_succ]
      refine hold_two (i := 5) (j := 10) rfl rfl (by kernel_rfl) (by rfl) (by rfl) (fun K hK => ?_) (fun K hK => ?_)
      · go_simp
        have HL1 : Hid (Below wa.heap.size wa (wa.alloc (.cells #[.string k, .int .i64 r] 39))) := (Below.refl _ _).alloc (Nat.le_refl _) _
        have HX1 := Lib.hid (heap_alloc_new wa (.cells #[.string k, .int .i64 r] 39))
        have HK1 := Lib.hid (HKa.out.trans (Kept.alloc wa (.cells #[.string k, .int .i64 r] 39)))
        have HR1 := Lib.hid (HRa.out.new HL1.out)
        clear HL1
        generalize wa.alloc (.cells #[.string k, .int .i64 r] 39) = w1x at *
        generalize wa.heap.size = q1 at *
        refine hK _ _ (trivial) ?_
        clear hK K
        simp only [List.setIfInBounds_toArray, List.set_cons_zero, List.set_cons_succ]
        refine hold_two (i := 6) (j := 10) rfl rfl (by kernel_rfl) (by rfl) (by rfl) (fun K hK => ?_) (fun K hK => ?_)
        · refine op_one_to (Sh := onS) 71 rfl (.tmp 66) (.tmp 70) 26 rfl Try.underlying26 info_on rfl vz 0 (L1.take 0) rfl HR1.out q1 1 ⟨k, r⟩ rfl HX1.out (by omega) (by omega) ?_
          intro v2 w2x hr2 hk2
          have HR2 := Lib.hid (hr2.mono fun k _ h => h.elim id fun h => by have := HZ.out; have := HK1.out.size; have h : w1x.heap.size ≤ k := h; omega)
          have HK2 := Lib.hid (HK1.out.trans hk2)
          clear hr2 hk2
          refine hK _ _ (trivial) ?_
          clear hK K
          simp only [Act.put, List.setIfInBounds_toArray, List.set_cons_zero, List.set_cons_succ]
          refine held_step (i := 10) rfl (by kernel_rfl) ?_ (fun K hK => ?_)
          · rfl
          have z0 := HCM.out _ HK2.out
          go_simp
          clear z0
          refine hK _ _ (trivial) ?_
          clear hK K
          simp only [List.setIfInBounds_toArray, List.set_cons_zero, List.set_cons_succ]
          refine held_take (i := 12) (v := ?_) (d := some 77) rfl rfl (by kernel_rfl) (by kernel_rfl) (by kernel_rfl) (fun _ _ _ h => h) (trivial) ⟨?_, fun w hSw => ?_⟩ ?_
          rotate_left 1
          · rfl
          · (go_simp; all_goals with_reducible rfl)
          simp only [Act.put, List.setIfInBounds_toArray, List.set_cons_zero, List.set_cons_succ]
          refine held_step (i := 13) rfl (by kernel_rfl) ?_ (fun K hK => ?_)
          · rfl
          refine op_srow_to 78 rfl (.tmp 71) (.tmp 77) 26 rfl 39 _ 2 24 Try.underlying26 info_on (by rfl) (by decide) v2 (0 + 1) (onS.flat (L1.take 0 ++ [⟨k, r⟩])) rfl HR2.out _ _ _ (onS.flat (L1.drop 0)) rfl (fun _ => ⟨by omega, by omega⟩) HLD.out (fun ad e => by cases e) (Shape.flat_one' onS _) (by unfold maxLen; omega) (by omega) ?_
          intro v4 w4x hr4 hk4
          have HK4 := Lib.hid (HK2.out.trans hk4)
          have HR4 := Lib.hid (hr4.mono fun k _ h => h.elim id fun h => by have := HZ.out; have := HK2.out.size; have h : w2x.heap.size ≤ k := h; omega)
          clear hr4 hk4
          obtain ⟨A4, c4, ev4, -⟩ := HR4.out.open_
          subst ev4
          refine hK _ _ (trivial) ?_
          clear hK K
          simp only [Act.put, List.setIfInBounds_toArray, List.set_cons_zero, List.set_cons_succ]
          refine held_take (i := 14) (v := ?_) (d := some 79) rfl rfl (by kernel_rfl) (by kernel_rfl) (by kernel_rfl) (fun _ _ _ h => h) (trivial) ⟨?_, fun w hSw => ?_⟩ ?_
          rotate_left 1
          · rfl
          · (go_simp; all_goals with_reducible rfl)
          simp only [Act.put, List.setIfInBounds_toArray, List.set_cons_zero, List.set_cons_succ]
          refine held_take (i := 15) (v := ?_) (d := some 80) rfl rfl (by kernel_rfl) (by kernel_rfl) (by kernel_rfl) (fun _ _ _ h => h) (trivial) ⟨?_, fun w hSw => ?_⟩ ?_
          rotate_left 1
          · rfl
          · (go_simp; all_goals with_reducible rfl)
          simp only [Act.put, List.setIfInBounds_toArray, List.set_cons_zero, List.set_cons_succ]
          refine held_step (i := 16) rfl (by kernel_rfl) ?_ (fun K hK => ?_)
          · rfl
          have z0 := HCM.out _ HK4.out
          have g0 := HFM.out _ HK4.out
          go_simp
          clear z0 g0
          refine hK _ _ (trivial) ?_
          clear hK K
          simp only [List.setIfInBounds_toArray, List.set_cons_zero, List.set_cons_succ]
          refine wpAnyH_done (by kernel_rfl) ?_ _
          have HE := Lib.hid (qr_new HZ.out HB1.out HK4.out HRM.out HM0.out (HHM.out _ HK4.out) HR4.out)
          go_wp2_with fail
          go_end0
          exact HFIN.out _ HE.out.1 HE.out.2
        · have z0 := HCM.out _ HK1.out
          go_simp
          clear z0
          refine hK _ _ (trivial) ?_
          clear hK K
          simp only [List.setIfInBounds_toArray, List.set_cons_zero, List.set_cons_succ]
          refine held_take (i := 12) (v := ?_) (d := some 77) rfl rfl (by kernel_rfl) (by kernel_rfl) (by kernel_rfl) (fun _ _ _ h => h) (trivial) ⟨?_, fun w hSw => ?_⟩ ?_
          rotate_left 1
          · rfl
          · (go_simp; all_goals with_reducible rfl)
          simp only [Act.put, List.setIfInBounds_toArray, List.set_cons_zero, List.set_cons_succ]
          refine held_step (i := 6) rfl (by kernel_rfl) ?_ (fun K hK => ?_)
          · rfl
          refine op_one_to (Sh := onS) 71 rfl (.tmp 66) (.tmp 70) 26 rfl Try.underlying26 info_on rfl vz 0 (L1.take 0) rfl HR1.out q1 1 ⟨k, r⟩ rfl HX1.out (by omega) (by omega) ?_
          intro v7 w7x hr7 hk7
          have HR7 := Lib.hid (hr7.mono fun k _ h => h.elim id fun h => by have := HZ.out; have := HK1.out.size; have h : w1x.heap.size ≤ k := h; omega)
          have HK7 := Lib.hid (HK1.out.trans hk7)
          clear hr7 hk7
          refine hK _ _ (trivial) ?_
          clear hK K
          simp only [Act.put, List.setIfInBounds_toArray, List.set_cons_zero, List.set_cons_succ]
          refine held_step (i := 13) rfl (by kernel_rfl) ?_ (fun K hK => ?_)
          · rfl
          refine op_srow_to 78 rfl (.tmp 71) (.tmp 77) 26 rfl 39 _ 2 24 Try.underlying26 info_on (by rfl) (by decide) v7 (0 + 1) (onS.flat (L1.take 0 ++ [⟨k, r⟩])) rfl HR7.out _ _ _ (onS.flat (L1.drop 0)) rfl (fun _ => ⟨by omega, by omega⟩) HLD.out (fun ad e => by cases e) (Shape.flat_one' onS _) (by unfold maxLen; omega) (by omega) ?_
          intro v8 w8x hr8 hk8
          have HK8 := Lib.hid (HK7.out.trans hk8)
          have HR8 := Lib.hid (hr8.mono fun k _ h => h.elim id fun h => by have := HZ.out; have := HK7.out.size; have h : w7x.heap.size ≤ k := h; omega)
          clear hr8 hk8
          obtain ⟨A8, c8, ev8, -⟩ := HR8.out.open_
          subst ev8
          refine hK _ _ (trivial) ?_
          clear hK K
          simp only [Act.put, List.setIfInBounds_toArray, List.set_cons_zero, List.set_cons_succ]
          refine held_take (i := 14) (v := ?_) (d := some 79) rfl rfl (by kernel_rfl) (by kernel_rfl) (by kernel_rfl) (fun _ _ _ h => h) (trivial) ⟨?_, fun w hSw => ?_⟩ ?_
          rotate_left 1
          · rfl
          · (go_simp; all_goals with_reducible rfl)
          simp only [Act.put, List.setIfInBounds_toArray, List.set_cons_zero, List.set_cons_succ]
          refine held_take (i := 15) (v := ?_) (d := some 80) rfl rfl (by kernel_rfl) (by kernel_rfl) (by kernel_rfl) (fun _ _ _ h => h) (trivial) ⟨?_, fun w hSw => ?_⟩ ?_
          rotate_left 1
          · rfl
          · (go_simp; all_goals with_reducible rfl)
          simp only [Act.put, List.setIfInBounds_toArray, List.set_cons_zero, List.set_cons_succ]
          refine held_step (i := 16) rfl (by kernel_rfl) ?_ (fun K hK => ?_)
          · rfl
          have z0 := HCM.out _ HK8.out
          have g0 := HFM.out _ HK8.out
          go_simp
          clear z0 g0
          refine hK _ _ (trivial) ?_
          clear hK K
          simp only [List.setIfInBounds_toArray, List.set_cons_zero, List.set_cons_succ]
          refine wpAnyH_done (by kernel_rfl) ?_ _
          have HE := Lib.hid (qr_new HZ.out HB1.out HK8.out HRM.out HM0.out (HHM.out _ HK8.out) HR8.out)
          go_wp2_with fail
          go_end0
          exact HFIN.out _ HE.out.1 HE.out.2
      · have z0 := HCM.out _ HKa.out
        go_simp
        clear z0
        refine hK _ _ (trivial) ?_
        clear hK K
        simp only [List.setIfInBounds_toArray, List.set_cons_zero, List.set_cons_succ]
        refine held_take (i := 12) (v := ?_) (d := some 77) rfl rfl (by kernel_rfl) (by kernel_rfl) (by kernel_rfl) (fun _ _ _ h => h) (trivial) ⟨?_, fun w hSw => ?_⟩ ?_
        rotate_left 1
        · rfl
        · (go_simp; all_goals with_reducible rfl)
        simp only [Act.put, List.setIfInBounds_toArray, List.set_cons_zero, List.set_cons_succ]
        refine held_step (i := 5) rfl (by kernel_rfl) ?_ (fun K hK => ?_)
        · rfl
        go_simp
        have HL11 : Hid (Below wa.heap.size wa (wa.alloc (.cells #[.string k, .int .i64 r] 39))) := (Below.refl _ _).alloc (Nat.le_refl _) _
        have HX11 := Lib.hid (heap_alloc_new wa (.cells #[.string k, .int .i64 r] 39))
        have HK11 := Lib.hid (HKa.out.trans (Kept.alloc wa (.cells #[.string k, .int .i64 r] 39)))
        have HR11 := Lib.hid (HRa.out.new HL11.out)
        clear HL11
        generalize wa.alloc (.cells #[.string k, .int .i64 r] 39) = w11x at *
        generalize wa.heap.size = q11 at *
        refine hK _ _ (trivial) ?_
        clear hK K
        simp only [List.setIfInBounds_toArray, List.set_cons_zero, List.set_cons_succ]
        refine held_step (i := 6) rfl (by kernel_rfl) ?_ (fun K hK => ?_)
        · rfl
        refine op_one_to (Sh := onS) 71 rfl (.tmp 66) (.tmp 70) 26 rfl Try.underlying26 info_on rfl vz 0 (L1.take 0) rfl HR11.out q11 1 ⟨k, r⟩ rfl HX11.out (by omega) (by omega) ?_
        intro v12 w12x hr12 hk12
        have HR12 := Lib.hid (hr12.mono fun k _ h => h.elim id fun h => by have := HZ.out; have := HK11.out.size; have h : w11x.heap.size ≤ k := h; omega)
        have HK12 := Lib.hid (HK11.out.trans hk12)
        clear hr12 hk12
        refine hK _ _ (trivial) ?_
        clear hK K
        simp only [Act.put, List.setIfInBounds_toArray, List.set_cons_zero, List.set_cons_succ]
        refine held_step (i := 13) rfl (by kernel_rfl) ?_ (fun K hK => ?_)
        · rfl
        refine op_srow_to 78 rfl (.tmp 71) (.tmp 77) 26 rfl 39 _ 2 24 Try.underlying26 info_on (by rfl) (by decide) v12 (0 + 1) (onS.flat (L1.take 0 ++ [⟨k, r⟩])) rfl HR12.out _ _ _ (onS.flat (L1.drop 0)) rfl (fun _ => ⟨by omega, by omega⟩) HLD.out (fun ad e => by cases e) (Shape.flat_one' onS _) (by unfold maxLen; omega) (by omega) ?_
        intro v13 w13x hr13 hk13
        have HK13 := Lib.hid (HK12.out.trans hk13)
        have HR13 := Lib.hid (hr13.mono fun k _ h => h.elim id fun h => by have := HZ.out; have := HK12.out.size; have h : w12x.heap.size ≤ k := h; omega)
        clear hr13 hk13
        obtain ⟨A13, c13, ev13, -⟩ := HR13.out.open_
        subst ev13
        refine hK _ _ (trivial) ?_
        clear hK K
        simp only [Act.put, List.setIfInBounds_toArray, List.set_cons_zero, List.set_cons_succ]
        refine held_take (i := 14) (v := ?_) (d := some 79) rfl rfl (by kernel_rfl) (by kernel_rfl) (by kernel_rfl) (fun _ _ _ h => h) (trivial) ⟨?_, fun w hSw => ?_⟩ ?_
        rotate_left 1
        · rfl
        · (go_simp; all_goals with_reducible rfl)
        simp only [Act.put, List.setIfInBounds_toArray, List.set_cons_zero, List.set_cons_succ]
        refine held_take (i := 15) (v := ?_) (d := some 80) rfl rfl (by kernel_rfl) (by kernel_rfl) (by kernel_rfl) (fun _ _ _ h => h) (trivial) ⟨?_, fun w hSw => ?_⟩ ?_
        rotate_left 1
        · rfl
        · (go_simp; all_goals with_reducible rfl)
        simp only [Act.put, List.setIfInBounds_toArray, List.set_cons_zero, List.set_cons_succ]
        refine held_step (i := 16) rfl (by kernel_rfl) ?_ (fun K hK => ?_)
        · rfl
        have z0 := HCM.out _ HK13.out
        have g0 := HFM.out _ HK13.out
        go_simp
        clear z0 g0
        refine hK _ _ (trivial) ?_
        clear hK K
        simp only [List.setIfInBounds_toArray, List.set_cons_zero, List.set_cons_succ]
        refine wpAnyH_done (by kernel_rfl) ?_ _
        have HE := Lib.hid (qr_new HZ.out HB1.out HK13.out HRM.out HM0.out (HHM.out _ HK13.out) HR13.out)
        go_wp2_with fail
        go_end0
        exact HFIN.out _ HE.out.1 HE.out.2
    · have hic : i ≤ c := by omega
      have HFL := Lib.hid hfl
      have HGL := Lib.hid hgl
      have HRV : Hid (∀ W, Kept (fun k => z ≤ k) w1 W → FlAt W g o (onS.flat L1)) := fun W hW => HFL.out.kept hW HGL.out (by have := HGL.out; have := HZ.out; omega)
      clear hfl hgl HAA HNIL
      go_wp2_with (at_builtin; refine BigFrame.wpList_want rfl fun K hK => ?_; refine Classical.byContradiction fun hstop => ?_)
      refine hstop ?_
      refine op_append_srow (.const (.slice none 0 0)) (.tmp 63) 26 rfl 39 _ 2 24 Try.underlying26 info_on (by rfl) (by decide) (.slice none 0 0) 0 [] rfl (SRow.nil (S := fun k => z ≤ k)) _ _ _ (onS.flat (L1.take i)) rfl (fun e => by cases e) HLT.out ((HRV.out _ (Kept.refl _ _)).front i).src (Shape.flat_one' onS _) (by unfold maxLen; omega) (by omega) ?_
      intro vz wz hr2 hk2
      refine hK _ _ ?_
      have HRz : Hid (SRow (fun k => z ≤ k) 39 2 wz vz i (onS.flat (L1.take i))) := by rw [Nat.zero_add, List.nil_append] at hr2; exact hr2.mono fun k _ h => h.elim id fun h => by have := HZ.out; have h : w1.heap.size ≤ k := h; omega
      have HKz := Lib.hid hk2
      clear hr2 hk2 hstop hK K
      go_upto_region 6 with fail
      have HKa : Hid (Kept (fun k => z ≤ k) w1 wz.drew) := kept_drew' HKz.out
      have HRa : Hid (SRow (fun k => z ≤ k) 39 2 wz.drew vz _ _) := HRz.out.new ⟨rfl, rfl, rfl, Nat.le_refl _, fun _ _ => rfl⟩
      clear HKz HRz
      refine wp_region_held_drew (S := fun _ => True) (by kernel_rfl) (trivial) (fun hH => ?_)
      change wpAnyH _ _ _ _ _ 17 #[false, false, false, false, false, false, false, false, false, false, false, false, false, false, false, false, false] _ _
      clear hH
      generalize wz.drew = wa at *
      refine held_take (i := 0) (v := ?_) (d := some 65) rfl rfl (by kernel_rfl) (by kernel_rfl) (by kernel_rfl) (fun _ _ _ h => h) (trivial) ⟨?_, fun w hSw => ?_⟩ ?_
      rotate_left 1
      · rfl
      · (go_simp; all_goals with_reducible rfl)
      simp only [Act.put, List.setIfInBounds_toArray, List.set_cons_zero, List.set_cons_succ]
      refine held_take (i := 1) (v := ?_) (d := some 66) rfl rfl (by kernel_rfl) (by kernel_rfl) (by kernel_rfl) (fun _ _ _ h => h) (trivial) ⟨?_, fun w hSw => ?_⟩ ?_
      rotate_left 1
      · rfl
      · (go_simp; all_goals with_reducible rfl)
      simp only [Act.put, List.setIfInBounds_toArray, List.set_cons_zero, List.set_cons_succ]
      refine held_take (i := 2) (v := ?_) (d := some 67) rfl rfl (by kernel_rfl) (by kernel_rfl) (by kernel_rfl) (fun _ _ _ h => h) (trivial) ⟨?_, fun w hSw => ?_⟩ ?_
      rotate_left 1
      · rfl
      · (go_simp; all_goals with_reducible rfl)
      simp only [Act.put, List.setIfInBounds_toArray, List.set_cons_zero, List.set_cons_succ]
      refine held_take (i := 3) (v := ?_) (d := some 68) rfl rfl (by kernel_rfl) (by kernel_rfl) (by kernel_rfl) (fun _ _ _ h => h) (trivial) ⟨?_, fun w hSw => ?_⟩ ?_
      rotate_left 1
      · rfl
      · (go_simp; all_goals with_reducible rfl)
      simp only [Act.put, List.setIfInBounds_toArray, List.set_cons_zero, List.set_cons_succ]
      refine held_take (i := 4) (v := ?_) (d := some 69) rfl rfl (by kernel_rfl) (by kernel_rfl) (by kernel_rfl) (fun _ _ _ h => h) (trivial) ⟨?_, fun w hSw => ?_⟩ ?_
      rotate_left 1
      · rfl
      · (go_simp; all_goals with_reducible rfl)
      simp only [Act.put, List.setIfInBounds_toArray, List.set_cons_zero, List.set_cons_succ]
      refine held_take (i := 7) (v := ?_) (d := some 72) rfl rfl (by kernel_rfl) (by kernel_rfl) (by kernel_rfl) (fun _ _ _ h => h) (trivial) ⟨?_, fun w hSw => ?_⟩ ?_
      rotate_left 1
      · rfl
      · (go_simp; all_goals with_reducible rfl)
      simp only [Act.put, List.setIfInBounds_toArray, List.set_cons_zero, List.set_cons_succ]
      refine held_take (i := 8) (v := ?_) (d := some 73) rfl rfl (by kernel_rfl) (by kernel_rfl) (by kernel_rfl) (fun _ _ _ h => h) (trivial) ⟨?_, fun w hSw => ?_⟩ ?_
      rotate_left 1
      · rfl
      · (go_simp; all_goals with_reducible rfl)
      simp only [Act.put, List.setIfInBounds_toArray, List.set_cons_zero, List.set_cons_succ]
      refine held_take (i := 9) (v := ?_) (d := some 74) rfl rfl (by kernel_rfl) (by kernel_rfl) (by kernel_rfl) (fun _ _ _ h => h) (trivial) ⟨?_, fun w hSw => ?_⟩ ?_
      rotate_left 1
      · rfl
      · (go_simp; all_goals with_reducible rfl)
      simp only [Act.put, List.setIfInBounds_toArray, List.set_cons_zero, List.set_cons_succ]
      refine held_take (i := 11) (v := ?_) (d := some 76) rfl rfl (by kernel_rfl) (by kernel_rfl) (by kernel_rfl) (fun _ _ _ h => h) (trivial) ⟨?_, fun w hSw => ?_⟩ ?_
      rotate_left 1
      · rfl
      · (go_simp; all_goals with_reducible rfl)
      simp only [Act.put, List.setIfInBounds_toArray, List.set_cons_zero, List.set_cons_succ]
      refine hold_two (i := 5) (j := 10) rfl rfl (by kernel_rfl) (by rfl) (by rfl) (fun K hK => ?_) (fun K hK => ?_)
      · go_simp
        have HL1 : Hid (Below wa.heap.size wa (wa.alloc (.cells #[.string k, .int .i64 r] 39))) := (Below.refl _ _).alloc (Nat.le_refl _) _
        have HX1 := Lib.hid (heap_alloc_new wa (.cells #[.string k, .int .i64 r] 39))
        have HK1 := Lib.hid (HKa.out.trans (Kept.alloc wa (.cells #[.string k, .int .i64 r] 39)))
        have HR1 := Lib.hid (HRa.out.new HL1.out)
        clear HL1
        generalize wa.alloc (.cells #[.string k, .int .i64 r] 39) = w1x at *
        generalize wa.heap.size = q1 at *
        refine hK _ _ (trivial) ?_
        clear hK K
        simp only [List.setIfInBounds_toArray, List.set_cons_zero, List.set_cons_succ]
        refine hold_two (i := 6) (j := 10) rfl rfl (by kernel_rfl) (by rfl) (by rfl) (fun K hK => ?_) (fun K hK => ?_)
        · refine op_one_to (Sh := onS) 71 rfl (.tmp 66) (.tmp 70) 26 rfl Try.underlying26 info_on rfl vz i (L1.take i) rfl HR1.out q1 1 ⟨k, r⟩ rfl HX1.out (by omega) (by omega) ?_
          intro v2 w2x hr2 hk2
          have HR2 := Lib.hid (hr2.mono fun k _ h => h.elim id fun h => by have := HZ.out; have := HK1.out.size; have h : w1x.heap.size ≤ k := h; omega)
          have HK2 := Lib.hid (HK1.out.trans hk2)
          clear hr2 hk2
          refine hK _ _ (trivial) ?_
          clear hK K
          simp only [Act.put, List.setIfInBounds_toArray, List.set_cons_zero, List.set_cons_succ]
          refine held_step (i := 10) rfl (by kernel_rfl) ?_ (fun K hK => ?_)
          · rfl
          have z0 := HCM.out _ HK2.out
          go_simp
          clear z0
          refine hK _ _ (trivial) ?_
          clear hK K
          simp only [List.setIfInBounds_toArray, List.set_cons_zero, List.set_cons_succ]
          refine held_take (i := 12) (v := ?_) (d := some 77) rfl rfl (by kernel_rfl) (by kernel_rfl) (by kernel_rfl) (fun _ _ _ h => h) (trivial) ⟨?_, fun w hSw => ?_⟩ ?_
          rotate_left 1
          · rfl
          · (go_simp; all_goals with_reducible rfl)
          simp only [Act.put, List.setIfInBounds_toArray, List.set_cons_zero, List.set_cons_succ]
          refine held_step (i := 13) rfl (by kernel_rfl) ?_ (fun K hK => ?_)
          · rfl
          refine op_srow_to 78 rfl (.tmp 71) (.tmp 77) 26 rfl 39 _ 2 24 Try.underlying26 info_on (by rfl) (by decide) v2 (i + 1) (onS.flat (L1.take i ++ [⟨k, r⟩])) rfl HR2.out _ _ _ (onS.flat (L1.drop i)) rfl (fun e => by split at e <;> cases e) HLD.out ((HRV.out _ HK2.out).srcIf i HIL.out HN.out hnc) (Shape.flat_one' onS _) (by unfold maxLen; omega) (by omega) ?_
          intro v4 w4x hr4 hk4
          have HK4 := Lib.hid (HK2.out.trans hk4)
          have HR4 := Lib.hid (hr4.mono fun k _ h => h.elim id fun h => by have := HZ.out; have := HK2.out.size; have h : w2x.heap.size ≤ k := h; omega)
          clear hr4 hk4
          obtain ⟨A4, c4, ev4, -⟩ := HR4.out.open_
          subst ev4
          refine hK _ _ (trivial) ?_
          clear hK K
          simp only [Act.put, List.setIfInBounds_toArray, List.set_cons_zero, List.set_cons_succ]
          refine held_take (i := 14) (v := ?_) (d := some 79) rfl rfl (by kernel_rfl) (by kernel_rfl) (by kernel_rfl) (fun _ _ _ h => h) (trivial) ⟨?_, fun w hSw => ?_⟩ ?_
          rotate_left 1
          · rfl
          · (go_simp; all_goals with_reducible rfl)
          simp only [Act.put, List.setIfInBounds_toArray, List.set_cons_zero, List.set_cons_succ]
          refine held_take (i := 15) (v := ?_) (d := some 80) rfl rfl (by kernel_rfl) (by kernel_rfl) (by kernel_rfl) (fun _ _ _ h => h) (trivial) ⟨?_, fun w hSw => ?_⟩ ?_
          rotate_left 1
          · rfl
          · (go_simp; all_goals with_reducible rfl)
          simp only [Act.put, List.setIfInBounds_toArray, List.set_cons_zero, List.set_cons_succ]
          refine held_step (i := 16) rfl (by kernel_rfl) ?_ (fun K hK => ?_)
          · rfl
          generalize (if c = i then some (⟨g, o, none⟩ : Addr) else some ⟨g, o + i * 2, none⟩) = pz
          have z0 := HCM.out _ HK4.out
          have g0 := HFM.out _ HK4.out
          go_simp
          clear z0 g0
          refine hK _ _ (trivial) ?_
          clear hK K
          simp only [List.setIfInBounds_toArray, List.set_cons_zero, List.set_cons_succ]
          refine wpAnyH_done (by kernel_rfl) ?_ _
          have HE := Lib.hid (qr_new HZ.out HB1.out HK4.out HRM.out HM0.out (HHM.out _ HK4.out) HR4.out)
          go_wp2_with fail
          go_end0
          exact HFIN.out _ HE.out.1 HE.out.2
        · have z0 := HCM.out _ HK1.out
          go_simp
          clear z0
          refine hK _ _ (trivial) ?_
          clear hK K
          simp only [List.setIfInBounds_toArray, List.set_cons_zero, List.set_cons_succ]
          refine held_take (i := 12) (v := ?_) (d := some 77) rfl rfl (by kernel_rfl) (by kernel_rfl) (by kernel_rfl) (fun _ _ _ h => h) (trivial) ⟨?_, fun w hSw => ?_⟩ ?_
          rotate_left 1
          · rfl
          · (go_simp; all_goals with_reducible rfl)
          simp only [Act.put, List.setIfInBounds_toArray, List.set_cons_zero, List.set_cons_succ]
          refine held_step (i := 6) rfl (by kernel_rfl) ?_ (fun K hK => ?_)
          · rfl
          refine op_one_to (Sh := onS) 71 rfl (.tmp 66) (.tmp 70) 26 rfl Try.underlying26 info_on rfl vz i (L1.take i) rfl HR1.out q1 1 ⟨k, r⟩ rfl HX1.out (by omega) (by omega) ?_
          intro v7 w7x hr7 hk7
          have HR7 := Lib.hid (hr7.mono fun k _ h => h.elim id fun h => by have := HZ.out; have := HK1.out.size; have h : w1x.heap.size ≤ k := h; omega)
          have HK7 := Lib.hid (HK1.out.trans hk7)
          clear hr7 hk7
          refine hK _ _ (trivial) ?_
          clear hK K
          simp only [Act.put, List.setIfInBounds_toArray, List.set_cons_zero, List.set_cons_succ]
          refine held_step (i := 13) rfl (by kernel_rfl) ?_ (fun K hK => ?_)
          · rfl
          refine op_srow_to 78 rfl (.tmp 71) (.tmp 77) 26 rfl 39 _ 2 24 Try.underlying26 info_on (by rfl) (by decide) v7 (i + 1) (onS.flat (L1.take i ++ [⟨k, r⟩])) rfl HR7.out _ _ _ (onS.flat (L1.drop i)) rfl (fun e => by split at e <;> cases e) HLD.out ((HRV.out _ HK7.out).srcIf i HIL.out HN.out hnc) (Shape.flat_one' onS _) (by unfold maxLen; omega) (by omega) ?_
          intro v8 w8x hr8 hk8
          have HK8 := Lib.hid (HK7.out.trans hk8)
          have HR8 := Lib.hid (hr8.mono fun k _ h => h.elim id fun h => by have := HZ.out; have := HK7.out.size; have h : w7x.heap.size ≤ k := h; omega)
          clear hr8 hk8
          obtain ⟨A8, c8, ev8, -⟩ := HR8.out.open_
          subst ev8
          refine hK _ _ (trivial) ?_
          clear hK K
          simp only [Act.put, List.setIfInBounds_toArray, List.set_cons_zero, List.set_cons_succ]
          refine held_take (i := 14) (v := ?_) (d := some 79) rfl rfl (by kernel_rfl) (by kernel_rfl) (by kernel_rfl) (fun _ _ _ h => h) (trivial) ⟨?_, fun w hSw => ?_⟩ ?_
          rotate_left 1
          · rfl
          · (go_simp; all_goals with_reducible rfl)
          simp only [Act.put, List.setIfInBounds_toArray, List.set_cons_zero, List.set_cons_succ]
          refine held_take (i := 15) (v := ?_) (d := some 80) rfl rfl (by kernel_rfl) (by kernel_rfl) (by kernel_rfl) (fun _ _ _ h => h) (trivial) ⟨?_, fun w hSw => ?_⟩ ?_
          rotate_left 1
          · rfl
          · (go_simp; all_goals with_reducible rfl)
          simp only [Act.put, List.setIfInBounds_toArray, List.set_cons_zero, List.set_cons_succ]
          refine held_step (i := 16) rfl (by kernel_rfl) ?_ (fun K hK => ?_)
          · rfl
          generalize (if c = i then some (⟨g, o, none⟩ : Addr) else some ⟨g, o + i * 2, none⟩) = pz
          have z0 := HCM.out _ HK8.out
          have g0 := HFM.out _ HK8.out
          go_simp
          clear z0 g0
          refine hK _ _ (trivial) ?_
          clear hK K
          simp only [List.setIfInBounds_toArray, List.set_cons_zero, List.set_cons_succ]
          refine wpAnyH_done (by kernel_rfl) ?_ _
          have HE := Lib.hid (qr_new HZ.out HB1.out HK8.out HRM.out HM0.out (HHM.out _ HK8.out) HR8.out)
          go_wp2_with fail
          go_end0
          exact HFIN.out _ HE.out.1 HE.out.2
      · have z0 := HCM.out _ HKa.out
        go_simp
        clear z0
        refine hK _ _ (trivial) ?_
        clear hK K
        simp only [List.setIfInBounds_toArray, List.set_cons_zero, List.set_cons_succ]
        refine held_take (i := 12) (v := ?_) (d := some 77) rfl rfl (by kernel_rfl) (by kernel_rfl) (by kernel_rfl) (fun _ _ _ h => h) (trivial) ⟨?_, fun w hSw => ?_⟩ ?_
        rotate_left 1
        · rfl
        · (go_simp; all_goals with_reducible rfl)
        simp only [Act.put, List.setIfInBounds_toArray, List.set_cons_zero, List.set_cons_succ]
        refine held_step (i := 5) rfl (by kernel_rfl) ?_ (fun K hK => ?_)
        · rfl
        go_simp
        have HL11 : Hid (Below wa.heap.size wa (wa.alloc (.cells #[.string k, .int .i64 r] 39))) := (Below.refl _ _).alloc (Nat.le_refl _) _
        have HX11 := Lib.hid (heap_alloc_new wa (.cells #[.string k, .int .i64 r] 39))
        have HK11 := Lib.hid (HKa.out.trans (Kept.alloc wa (.cells #[.string k, .int .i64 r] 39)))
        have HR11 := Lib.hid (HRa.out.new HL11.out)
        clear HL11
        generalize wa.alloc (.cells #[.string k, .int .i64 r] 39) = w11x at *
        generalize wa.heap.size = q11 at *
        refine hK _ _ (trivial) ?_
        clear hK K
        simp only [List.setIfInBounds_toArray, List.set_cons_zero, List.set_cons_succ]
        refine held_step (i := 6) rfl (by kernel_rfl) ?_ (fun K hK => ?_)
        · rfl
        refine op_one_to (Sh := onS) 71 rfl (.tmp 66) (.tmp 70) 26 rfl Try.underlying26 info_on rfl vz i (L1.take i) rfl HR11.out q11 1 ⟨k, r⟩ rfl HX11.out (by omega) (by omega) ?_
        intro v12 w12x hr12 hk12
        have HR12 := Lib.hid (hr12.mono fun k _ h => h.elim id fun h => by have := HZ.out; have := HK11.out.size; have h : w11x.heap.size ≤ k := h; omega)
        have HK12 := Lib.hid (HK11.out.trans hk12)
        clear hr12 hk12
        refine hK _ _ (trivial) ?_
        clear hK K
        simp only [Act.put, List.setIfInBounds_toArray, List.set_cons_zero, List.set_cons_succ]
        refine held_step (i := 13) rfl (by kernel_rfl) ?_ (fun K hK => ?_)
        · rfl
        refine op_srow_to 78 rfl (.tmp 71) (.tmp 77) 26 rfl 39 _ 2 24 Try.underlying26 info_on (by rfl) (by decide) v12 (i + 1) (onS.flat (L1.take i ++ [⟨k, r⟩])) rfl HR12.out _ _ _ (onS.flat (L1.drop i)) rfl (fun e => by split at e <;> cases e) HLD.out ((HRV.out _ HK12.out).srcIf i HIL.out HN.out hnc) (Shape.flat_one' onS _) (by unfold maxLen; omega) (by omega) ?_
        intro v13 w13x hr13 hk13
        have HK13 := Lib.hid (HK12.out.trans hk13)
        have HR13 := Lib.hid (hr13.mono fun k _ h => h.elim id fun h => by have := HZ.out; have := HK12.out.size; have h : w12x.heap.size ≤ k := h; omega)
        clear hr13 hk13
        obtain ⟨A13, c13, ev13, -⟩ := HR13.out.open_
        subst ev13
        refine hK _ _ (trivial) ?_
        clear hK K
        simp only [Act.put, List.setIfInBounds_toArray, List.set_cons_zero, List.set_cons_succ]
        refine held_take (i := 14) (v := ?_) (d := some 79) rfl rfl (by kernel_rfl) (by kernel_rfl) (by kernel_rfl) (fun _ _ _ h => h) (trivial) ⟨?_, fun w hSw => ?_⟩ ?_
        rotate_left 1
        · rfl
        · (go_simp; all_goals with_reducible rfl)
        simp only [Act.put, List.setIfInBounds_toArray, List.set_cons_zero, List.set_cons_succ]
        refine held_take (i := 15) (v := ?_) (d := some 80) rfl rfl (by kernel_rfl) (by kernel_rfl) (by kernel_rfl) (fun _ _ _ h => h) (trivial) ⟨?_, fun w hSw => ?_⟩ ?_
        rotate_left 1
        · rfl
        · (go_simp; all_goals with_reducible rfl)
        simp only [Act.put, List.setIfInBounds_toArray, List.set_cons_zero, List.set_cons_succ]
        refine held_step (i := 16) rfl (by kernel_rfl) ?_ (fun K hK => ?_)
        · rfl
        generalize (if c = i then some (⟨g, o, none⟩ : Addr) else some ⟨g, o + i * 2, none⟩) = pz
        have z0 := HCM.out _ HK13.out
        have g0 := HFM.out _ HK13.out
        go_simp
        clear z0 g0
        refine hK _ _ (trivial) ?_
        clear hK K
        simp only [List.setIfInBounds_toArray, List.set_cons_zero, List.set_cons_succ]
        refine wpAnyH_done (by kernel_rfl) ?_ _
        have HE := Lib.hid (qr_new HZ.out HB1.out HK13.out HRM.out HM0.out (HHM.out _ HK13.out) HR13.out)
        go_wp2_with fail
        go_end0
        exact HFIN.out _ HE.out.1 HE.out.2
end Go.Proofs.Ytkhmimdigdjajaa
