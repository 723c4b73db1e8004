/-
  The reference's Add.
-/
import Derived.Test.YtlhjofcpcccdpaaChRefSet
set_option maxRecDepth 100000
namespace Go.Proofs.Ytlhjofcpcccdpaa
open Go.RowKit Go.Maps
/-- What the reference's Add does. -/
def RAdd (R : Nat → Prop) (m : Nat) (s o : Int) (k : ByteArray) (L : List Ch.Ent) (w : World) (e : Ending) (w' : World) : Prop :=
  e = .returned (.tuple #[]) ∧ Kept R w w' ∧ ∃ L', CR (Snc R w w') w' m L' ∧ Ch.Srt L' ∧ (∀ p, p ∈ L' ↔ p = ⟨s, o, k⟩ ∨ (p ∈ L ∧ ¬ (p.seq = s ∧ p.off = o))) ∧ L'.length ≤ L.length + 1
set_option maxHeartbeats 8000000 in
theorem refadd_any (m : Nat) (s o : Int) (k : ByteArray) (L : List Ch.Ent) (R : Nat → Prop) (w : World) (hL : L.length ≤ 1000) (hS : Hid (Ch.Srt L)) (hT : Hid (CR R w m L)) :
    Calls Try.prog 8 #[.pointer (some ⟨m, 0, none⟩), .int .i64 s, .int .i64 o, .string k] w (RAdd R m s o k L w) := by
  have HM00 := Lib.hid hT.out.lt
  go_enter Try.func8, Try.ntmps8
  go_wp2_with fail
  refine (refrem_any m s o L R w hL hS hT).mono ?_
  rintro e w1 ⟨y, L1, rfl, hk1, hT1, hS1, hm1, hl1, -⟩
  have HK1 := Lib.hid hk1
  have HS1 := Lib.hid hS1
  have HM1 := Lib.hid hm1
  have HNO : Hid (Ch.No L1 s o) := fun p hp => ((hm1 p).1 hp).2
  have HSZ1 : Hid (L1.length ≤ L.length) := hl1
  have HM0 : Hid (m < w1.heap.size) := Nat.lt_of_lt_of_le HM00.out hk1.size
  obtain ⟨A, c, hRm, hm, hr, hsl, ha, hA⟩ := hT1.open_
  obtain ⟨n, hn⟩ : ∃ n, L1.length = n := ⟨_, rfl⟩
  have HAR := Lib.hid ha
  have HAA := Lib.hid hA
  have hcap := hsl.2.2
  have hnc := hsl.2.1
  have hnilc := hsl.1
  have c0 := one_cell_of hm
  have hn9 : n ≤ 1000 := by omega
  rw [hn] at hm hr hnc c0 hnilc
  have HRM := Lib.hid hRm
  have HHM0 := Lib.hid hm
  have HRV0 := Lib.hid hr
  have HN := Lib.hid hn
  clear hm hr ha hsl hn hA hRm hk1 hT1 hS1 hm1 hl1
  go_upto_block 0 with fail
  go_cut [8] (fun iv wx => ∃ i : Nat, iv = .int .i64 (i : Int) ∧ i ≤ n ∧ Hid (Ch.At L1 s o i) ∧ w1 = wx)
  case first =>
    go_wp2_with fail
    go_loopw [8] (fun iv wr => ∃ i : Nat, i ≤ n ∧ iv = .int .i64 (i : Int) ∧ Hid (∀ j, j < i → (Ch.ge L1 j).seq < s ∨ ((Ch.ge L1 j).seq = s ∧ (Ch.ge L1 j).off < o)) ∧ w1 = wr) (fun i _ => n - (Go.RowKit.intOf i).toNat)
    case atStart => exact ⟨0, Nat.zero_le _, rfl, fun j h => absurd h (Nat.not_lt_zero _), rfl⟩
    case round =>
      obtain ⟨i, hi, rfl, hlo, rfl⟩ := hrel
      by_cases hlt : i < n
      · have hiL : i < L1.length := by rw [HN.out]; exact hlt
        obtain ⟨ad, rfl⟩ := HAR.out.some hiL
        obtain ⟨g, rfl⟩ : ∃ g, ad = ⟨g, 0, none⟩ := by
          rcases HAA.out with h | ⟨g, h, -⟩
          · cases h
          · injection h with h; exact ⟨g, h⟩
        obtain ⟨⟨s0, o0, k0⟩, hp⟩ : ∃ p, Ch.ge L1 i = p := ⟨_, rfl⟩
        obtain ⟨m0, m1, -⟩ := ents_at HAR.out i hiL _ _ _ hp
        have HPP := Lib.hid hp
        have HNEXT : Hid ((s0 < s ∨ (s0 = s ∧ o0 < o)) → ∀ j, j < i + 1 → (Ch.ge L1 j).seq < s ∨ ((Ch.ge L1 j).seq = s ∧ (Ch.ge L1 j).off < o)) := fun hn j hj => by
          rcases Nat.lt_or_ge j i with h | h
          · exact hlo.out j h
          · obtain rfl : j = i := by omega
            rw [HPP.out]; exact hn
        have HAT : Hid (¬ (s0 < s ∨ (s0 = s ∧ o0 < o)) → Ch.At L1 s o i) := fun hn => ⟨by rw [HN.out]; exact hi, hlo.out, fun _ => by rw [HPP.out]; exact hn⟩
        clear hp hiL
        by_cases hss : s0 < s
        · have hb0 : decide (s0 < s) = true := decide_eq_true hss
          have HNX := Lib.hid (HNEXT.out (.inl hss))
          clear hss
          go_wp2_with fail
          go_roundw
          case rel => exact ⟨i + 1, by omega, by go_num, HNX, trivial⟩
          case measure => simp [Go.RowKit.intOf]; omega
        · have hb0 : decide (s0 < s) = false := decide_eq_false hss
          by_cases hse : s0 = s
          · have hb1 : (s0 == s) = true := by rw [beq_iff_eq]; exact hse
            by_cases hoo : o0 < o
            · have hb2 : decide (o0 < o) = true := decide_eq_true hoo
              have HNX := Lib.hid (HNEXT.out (.inr ⟨hse, hoo⟩))
              clear hss hse hoo
              go_wp2_with fail
              go_roundw
              case rel => exact ⟨i + 1, by omega, by go_num, HNX, trivial⟩
              case measure => simp [Go.RowKit.intOf]; omega
            · have hb2 : decide (o0 < o) = false := decide_eq_false hoo
              have HAT2 := Lib.hid (HAT.out fun h => h.elim hss fun h => hoo h.2)
              clear hss hse hoo
              go_wp2_with fail
              go_meet
              exact ⟨i, rfl, hi, HAT2, rfl⟩
          · have hb1 : (s0 == s) = false := by rw [beq_eq_false_iff_ne]; exact hse
            have HAT2 := Lib.hid (HAT.out fun h => h.elim hss fun h => hse h.1)
            clear hss hse
            go_wp2_with fail
            go_meet
            exact ⟨i, rfl, hi, HAT2, rfl⟩
      · obtain rfl : i = n := by omega
        have HAT2 : Hid (Ch.At L1 s o i) := ⟨Nat.le_of_eq HN.out.symm, hlo.out, fun h => absurd h (by rw [HN.out]; exact Nat.lt_irrefl _)⟩
        clear hlt
        go_wp2_with fail
        go_meet
        exact ⟨i, rfl, Nat.le_refl _, HAT2, rfl⟩
  case rest =>
    obtain ⟨i, rfl, hin, HAT, rfl⟩ := hcut
    obtain ⟨z, hz⟩ : ∃ z, w1.heap.size = z := ⟨_, rfl⟩
    have HZ := Lib.hid hz
    have hsi := Ch.srt_ins HS1.out HAT.out HNO.out k
    have HFIN : Hid (∀ w', Kept (Snc R w w1) w1 w' → (∀ L' : List Ch.Ent, entS.flat (L1.take i ++ [⟨s, o, k⟩]) ++ entS.flat (L1.drop i) = entS.flat L' → CR (Snc (Snc R w w1) w1 w') w' m L') → RAdd R m s o k L w (.returned (.tuple #[])) w') := fun w' hk hr => by
      refine ⟨rfl, HK1.out.snc hk, L1.take i ++ (⟨s, o, k⟩ :: L1.drop i), (hr _ (by rw [← entS.flat_append, List.append_assoc]; rfl)).mono fun k _ h => Snc.up HK1.out.size hk.size h, hsi.1, fun p => by rw [hsi.2 p, HM1.out p], ?_⟩
      rw [List.length_append, List.length_cons, List.length_take, List.length_drop]
      have := HSZ1.out
      omega
    have HHM : Hid (∀ W, Kept (fun k => z ≤ k) w1 W → W.heap[m]? = some (.cells #[.slice A n c] 28 (0, 0))) := fun W hW => by
      have hl := (Array.getElem?_eq_some_iff.1 HHM0.out).1
      exact (hW.block m hl (by omega)).trans HHM0.out
    have HCM : Hid (∀ W, Kept (fun k => z ≤ k) w1 W → W.cell? ⟨m, 0, none⟩ = some (.slice A n c)) := fun W hW => one_cell_of (HHM.out W hW)
    have HFM : Hid (∀ W, Kept (fun k => z ≤ k) w1 W → W.frozen? ⟨m, 0, none⟩ = false) := fun W hW => frozen_of_row W m _ _ _ (HHM.out W hW)
    have HRV : Hid (∀ W, Kept (fun k => z ≤ k) w1 W → SRow (fun k => Snc R w w1 k ∧ k ≠ m) 38 3 W (.slice A n c) n (entS.flat L1)) := fun W hW => HRV0.out.kept hW fun k hl _ => by omega
    have HLT : Hid ((entS.flat (L1.take i)).length = i * 3) := ent_take (by rw [HN.out]; exact hin)
    have HLD : Hid ((entS.flat (L1.drop i)).length = (n - i) * 3) := ent_drop HN.out
    have HIL : Hid (i ≤ L1.length) := by show _ ≤ _; rw [HN.out]; exact hin
    have HB1 : Hid (Below w1.heap.size w1 w1) := Below.refl _ _
    clear hsi hz
    rcases HAA.out with rfl | ⟨g, rfl, -⟩
    · obtain ⟨rfl, rfl⟩ := hnilc rfl
      obtain rfl : i = 0 := by omega
      clear hnilc hcap hnc hin
      go_wp2_with (at_builtin; refine BigFrame.wpList_want rfl fun K hK => ?_; refine Classical.byContradiction fun hstop => ?_)
      refine hstop ?_
      refine op_append_srow (.const (.slice none 0 0)) (.tmp 64) 26 rfl 38 _ 3 32 Try.underlying26 info_ent (by rfl) (by decide) (.slice none 0 0) 0 [] rfl (SRow.nil (S := fun k => z ≤ k)) _ _ _ (entS.flat (L1.take 0)) rfl (fun _ => ⟨by omega, by omega⟩) HLT.out (fun ad e => by cases e) (Shape.flat_one' entS _) (by unfold maxLen; omega) (by omega) ?_
      intro vz wz hr2 hk2
      refine hK _ _ ?_
      have HRz : Hid (SRow (fun k => z ≤ k) 38 3 wz vz 0 (entS.flat (L1.take 0))) := by rw [Nat.zero_add, List.nil_append] at hr2; exact hr2.mono fun k _ h => h.elim id fun h => by have := HZ.out; have h : w1.heap.size ≤ k := h; omega
      have HKz := Lib.hid hk2
      clear hr2 hk2 hstop hK K
      go_upto_region 5 with fail
      have HKa : Hid (Kept (fun k => z ≤ k) w1 wz.drew) := ch_drew HKz.out
      have HRa : Hid (SRow (fun k => z ≤ k) 38 3 wz.drew vz _ _) := HRz.out.new ⟨rfl, rfl, rfl, Nat.le_refl _, fun _ _ => rfl⟩
      clear HKz HRz
      refine wp_region_held_drew (S := fun _ => True) (by kernel_rfl) (trivial) (fun hH => ?_)
      change wpAnyH _ _ _ _ _ 18 #[false, false, false, false, false, false, false, false, false, false, false, false, false, false, false, false, false, false] _ _
      clear hH
      generalize wz.drew = wa at *
      refine held_take (i := 0) (v := ?_) (d := some 66) rfl rfl (by kernel_rfl) (by kernel_rfl) (by kernel_rfl) (fun _ _ _ h => h) (trivial) ⟨?_, fun w hSw => ?_⟩ ?_
      rotate_left 1
      · rfl
      · (go_simp; all_goals with_reducible rfl)
      simp only [Act.put, List.setIfInBounds_toArray, List.set_cons_zero, List.set_cons_succ]
      refine held_take (i := 1) (v := ?_) (d := some 67) rfl rfl (by kernel_rfl) (by kernel_rfl) (by kernel_rfl) (fun _ _ _ h => h) (trivial) ⟨?_, fun w hSw => ?_⟩ ?_
      rotate_left 1
      · rfl
      · (go_simp; all_goals with_reducible rfl)
      simp only [Act.put, List.setIfInBounds_toArray, List.set_cons_zero, List.set_cons_succ]
      refine held_take (i := 2) (v := ?_) (d := some 68) rfl rfl (by kernel_rfl) (by kernel_rfl) (by kernel_rfl) (fun _ _ _ h => h) (trivial) ⟨?_, fun w hSw => ?_⟩ ?_
      rotate_left 1
      · rfl
      · (go_simp; all_goals with_reducible rfl)
      simp only [Act.put, List.setIfInBounds_toArray, List.set_cons_zero, List.set_cons_succ]
      refine held_take (i := 3) (v := ?_) (d := some 69) rfl rfl (by kernel_rfl) (by kernel_rfl) (by kernel_rfl) (fun _ _ _ h => h) (trivial) ⟨?_, fun w hSw => ?_⟩ ?_
      rotate_left 1
      · rfl
      · (go_simp; all_goals with_reducible rfl)
      simp only [Act.put, List.setIfInBounds_toArray, List.set_cons_zero, List.set_cons_succ]
      refine held_take (i := 4) (v := ?_) (d := some 70) rfl rfl (by kernel_rfl) (by kernel_rfl) (by kernel_rfl) (fun _ _ _ h => h) (trivial) ⟨?_, fun w hSw => ?_⟩ ?_
      rotate_left 1
      · rfl
      · (go_simp; all_goals with_reducible rfl)
      simp only [Act.put, List.setIfInBounds_toArray, List.set_cons_zero, List.set_cons_succ]
      refine held_take (i := 5) (v := ?_) (d := some 71) rfl rfl (by kernel_rfl) (by kernel_rfl) (by kernel_rfl) (fun _ _ _ h => h) (trivial) ⟨?_, fun w hSw => ?_⟩ ?_
      rotate_left 1
      · rfl
      · (go_simp; all_goals with_reducible rfl)
      simp only [Act.put, List.setIfInBounds_toArray, List.set_cons_zero, List.set_cons_succ]
      refine held_take (i := 8) (v := ?_) (d := some 74) rfl rfl (by kernel_rfl) (by kernel_rfl) (by kernel_rfl) (fun _ _ _ h => h) (trivial) ⟨?_, fun w hSw => ?_⟩ ?_
      rotate_left 1
      · rfl
      · (go_simp; all_goals with_reducible rfl)
      simp only [Act.put, List.setIfInBounds_toArray, List.set_cons_zero, List.set_cons_succ]
      refine held_take (i := 9) (v := ?_) (d := some 75) rfl rfl (by kernel_rfl) (by kernel_rfl) (by kernel_rfl) (fun _ _ _ h => h) (trivial) ⟨?_, fun w hSw => ?_⟩ ?_
      rotate_left 1
      · rfl
      · (go_simp; all_goals with_reducible rfl)
      simp only [Act.put, List.setIfInBounds_toArray, List.set_cons_zero, List.set_cons_succ]
      refine held_take (i := 10) (v := ?_) (d := some 76) rfl rfl (by kernel_rfl) (by kernel_rfl) (by kernel_rfl) (fun _ _ _ h => h) (trivial) ⟨?_, fun w hSw => ?_⟩ ?_
      rotate_left 1
      · rfl
      · (go_simp; all_goals with_reducible rfl)
      simp only [Act.put, List.setIfInBounds_toArray, List.set_cons_zero, List.set_cons_succ]
      refine held_take (i := 12) (v := ?_) (d := some 78) rfl rfl (by kernel_rfl) (by kernel_rfl) (by kernel_rfl) (fun _ _ _ h => h) (trivial) ⟨?_, fun w hSw => ?_⟩ ?_
      rotate_left 1
      · rfl
      · (go_simp; all_goals with_reducible rfl)
      simp only [Act.put, List.setIfInBounds_toArray, List.set_cons_zero, List.set_cons_succ]
      refine hold_two (i := 6) (j := 11) rfl rfl (by kernel_rfl) (by rfl) (by rfl) (fun K hK => ?_) (fun K hK => ?_)
      · go_simp
        have HL1 : Hid (Below wa.heap.size wa (wa.alloc (.cells #[.int .i64 s, .int .i64 o, .string k] 38))) := (Below.refl _ _).alloc (Nat.le_refl _) _
        have HX1 := Lib.hid (heap_alloc_new wa (.cells #[.int .i64 s, .int .i64 o, .string k] 38))
        have HK1 := Lib.hid (HKa.out.trans (Kept.alloc wa (.cells #[.int .i64 s, .int .i64 o, .string k] 38)))
        have HR1 := Lib.hid (HRa.out.new HL1.out)
        clear HL1
        generalize wa.alloc (.cells #[.int .i64 s, .int .i64 o, .string k] 38) = w1x at *
        generalize wa.heap.size = q1 at *
        refine hK _ _ (trivial) ?_
        clear hK K
        simp only [List.setIfInBounds_toArray, List.set_cons_zero, List.set_cons_succ]
        refine hold_two (i := 7) (j := 11) rfl rfl (by kernel_rfl) (by rfl) (by rfl) (fun K hK => ?_) (fun K hK => ?_)
        · refine op_one_to (Sh := entS) 73 rfl (.tmp 67) (.tmp 72) 26 rfl Try.underlying26 info_ent rfl vz 0 (L1.take 0) rfl HR1.out q1 1 ⟨s, o, k⟩ rfl HX1.out (by omega) (by omega) ?_
          intro v2 w2x hr2 hk2
          have HR2 := Lib.hid (hr2.mono fun k _ h => h.elim id fun h => by have := HZ.out; have := HK1.out.size; have h : w1x.heap.size ≤ k := h; omega)
          have HK2 := Lib.hid (HK1.out.trans hk2)
          clear hr2 hk2
          refine hK _ _ (trivial) ?_
          clear hK K
          simp only [Act.put, List.setIfInBounds_toArray, List.set_cons_zero, List.set_cons_succ]
          refine held_step (i := 11) rfl (by kernel_rfl) ?_ (fun K hK => ?_)
          · rfl
          have z0 := HCM.out _ HK2.out
          go_simp
          clear z0
          refine hK _ _ (trivial) ?_
          clear hK K
          simp only [List.setIfInBounds_toArray, List.set_cons_zero, List.set_cons_succ]
          refine held_take (i := 13) (v := ?_) (d := some 79) rfl rfl (by kernel_rfl) (by kernel_rfl) (by kernel_rfl) (fun _ _ _ h => h) (trivial) ⟨?_, fun w hSw => ?_⟩ ?_
          rotate_left 1
          · rfl
          · (go_simp; all_goals with_reducible rfl)
          simp only [Act.put, List.setIfInBounds_toArray, List.set_cons_zero, List.set_cons_succ]
          refine held_step (i := 14) rfl (by kernel_rfl) ?_ (fun K hK => ?_)
          · rfl
          refine op_srow_to 80 rfl (.tmp 73) (.tmp 79) 26 rfl 38 _ 3 32 Try.underlying26 info_ent (by rfl) (by decide) v2 (0 + 1) (entS.flat (L1.take 0 ++ [⟨s, o, k⟩])) rfl HR2.out _ _ _ (entS.flat (L1.drop 0)) rfl (fun _ => ⟨by omega, by omega⟩) HLD.out (fun ad e => by cases e) (Shape.flat_one' entS _) (by unfold maxLen; omega) (by omega) ?_
          intro v4 w4x hr4 hk4
          have HK4 := Lib.hid (HK2.out.trans hk4)
          have HR4 := Lib.hid (hr4.mono fun k _ h => h.elim id fun h => by have := HZ.out; have := HK2.out.size; have h : w2x.heap.size ≤ k := h; omega)
          clear hr4 hk4
          obtain ⟨A4, c4, ev4, -⟩ := HR4.out.open_
          subst ev4
          refine hK _ _ (trivial) ?_
          clear hK K
          simp only [Act.put, List.setIfInBounds_toArray, List.set_cons_zero, List.set_cons_succ]
          refine held_take (i := 15) (v := ?_) (d := some 81) rfl rfl (by kernel_rfl) (by kernel_rfl) (by kernel_rfl) (fun _ _ _ h => h) (trivial) ⟨?_, fun w hSw => ?_⟩ ?_
          rotate_left 1
          · rfl
          · (go_simp; all_goals with_reducible rfl)
          simp only [Act.put, List.setIfInBounds_toArray, List.set_cons_zero, List.set_cons_succ]
          refine held_take (i := 16) (v := ?_) (d := some 82) rfl rfl (by kernel_rfl) (by kernel_rfl) (by kernel_rfl) (fun _ _ _ h => h) (trivial) ⟨?_, fun w hSw => ?_⟩ ?_
          rotate_left 1
          · rfl
          · (go_simp; all_goals with_reducible rfl)
          simp only [Act.put, List.setIfInBounds_toArray, List.set_cons_zero, List.set_cons_succ]
          refine held_step (i := 17) rfl (by kernel_rfl) ?_ (fun K hK => ?_)
          · rfl
          have z0 := HCM.out _ HK4.out
          have g0 := HFM.out _ HK4.out
          go_simp
          clear z0 g0
          refine hK _ _ (trivial) ?_
          clear hK K
          simp only [List.setIfInBounds_toArray, List.set_cons_zero, List.set_cons_succ]
          refine wpAnyH_done (by kernel_rfl) ?_ _
          have HE := Lib.hid (cr_new HZ.out HB1.out HK4.out HRM.out HM0.out (HHM.out _ HK4.out) HR4.out)
          go_wp2_with fail
          go_end0
          exact HFIN.out _ HE.out.1 HE.out.2
        · have z0 := HCM.out _ HK1.out
          go_simp
          clear z0
          refine hK _ _ (trivial) ?_
          clear hK K
          simp only [List.setIfInBounds_toArray, List.set_cons_zero, List.set_cons_succ]
          refine held_take (i := 13) (v := ?_) (d := some 79) rfl rfl (by kernel_rfl) (by kernel_rfl) (by kernel_rfl) (fun _ _ _ h => h) (trivial) ⟨?_, fun w hSw => ?_⟩ ?_
          rotate_left 1
          · rfl
          · (go_simp; all_goals with_reducible rfl)
          simp only [Act.put, List.setIfInBounds_toArray, List.set_cons_zero, List.set_cons_succ]
          refine held_step (i := 7) rfl (by kernel_rfl) ?_ (fun K hK => ?_)
          · rfl
          refine op_one_to (Sh := entS) 73 rfl (.tmp 67) (.tmp 72) 26 rfl Try.underlying26 info_ent rfl vz 0 (L1.take 0) rfl HR1.out q1 1 ⟨s, o, k⟩ rfl HX1.out (by omega) (by omega) ?_
          intro v7 w7x hr7 hk7
          have HR7 := Lib.hid (hr7.mono fun k _ h => h.elim id fun h => by have := HZ.out; have := HK1.out.size; have h : w1x.heap.size ≤ k := h; omega)
          have HK7 := Lib.hid (HK1.out.trans hk7)
          clear hr7 hk7
          refine hK _ _ (trivial) ?_
          clear hK K
          simp only [Act.put, List.setIfInBounds_toArray, List.set_cons_zero, List.set_cons_succ]
          refine held_step (i := 14) rfl (by kernel_rfl) ?_ (fun K hK => ?_)
          · rfl
          refine op_srow_to 80 rfl (.tmp 73) (.tmp 79) 26 rfl 38 _ 3 32 Try.underlying26 info_ent (by rfl) (by decide) v7 (0 + 1) (entS.flat (L1.take 0 ++ [⟨s, o, k⟩])) rfl HR7.out _ _ _ (entS.flat (L1.drop 0)) rfl (fun _ => ⟨by omega, by omega⟩) HLD.out (fun ad e => by cases e) (Shape.flat_one' entS _) (by unfold maxLen; omega) (by omega) ?_
          intro v8 w8x hr8 hk8
          have HK8 := Lib.hid (HK7.out.trans hk8)
          have HR8 := Lib.hid (hr8.mono fun k _ h => h.elim id fun h => by have := HZ.out; have := HK7.out.size; have h : w7x.heap.size ≤ k := h; omega)
          clear hr8 hk8
          obtain ⟨A8, c8, ev8, -⟩ := HR8.out.open_
          subst ev8
          refine hK _ _ (trivial) ?_
          clear hK K
          simp only [Act.put, List.setIfInBounds_toArray, List.set_cons_zero, List.set_cons_succ]
          refine held_take (i := 15) (v := ?_) (d := some 81) rfl rfl (by kernel_rfl) (by kernel_rfl) (by kernel_rfl) (fun _ _ _ h => h) (trivial) ⟨?_, fun w hSw => ?_⟩ ?_
          rotate_left 1
          · rfl
          · (go_simp; all_goals with_reducible rfl)
          simp only [Act.put, List.setIfInBounds_toArray, List.set_cons_zero, List.set_cons_succ]
          refine held_take (i := 16) (v := ?_) (d := some 82) rfl rfl (by kernel_rfl) (by kernel_rfl) (by kernel_rfl) (fun _ _ _ h => h) (trivial) ⟨?_, fun w hSw => ?_⟩ ?_
          rotate_left 1
          · rfl
          · (go_simp; all_goals with_reducible rfl)
          simp only [Act.put, List.setIfInBounds_toArray, List.set_cons_zero, List.set_cons_succ]
          refine held_step (i := 17) rfl (by kernel_rfl) ?_ (fun K hK => ?_)
          · rfl
          have z0 := HCM.out _ HK8.out
          have g0 := HFM.out _ HK8.out
          go_simp
          clear z0 g0
          refine hK _ _ (trivial) ?_
          clear hK K
          simp only [List.setIfInBounds_toArray, List.set_cons_zero, List.set_cons_succ]
          refine wpAnyH_done (by kernel_rfl) ?_ _
          have HE := Lib.hid (cr_new HZ.out HB1.out HK8.out HRM.out HM0.out (HHM.out _ HK8.out) HR8.out)
          go_wp2_with fail
          go_end0
          exact HFIN.out _ HE.out.1 HE.out.2
      · have z0 := HCM.out _ HKa.out
        go_simp
        clear z0
        refine hK _ _ (trivial) ?_
        clear hK K
        simp only [List.setIfInBounds_toArray, List.set_cons_zero, List.set_cons_succ]
        refine held_take (i := 13) (v := ?_) (d := some 79) rfl rfl (by kernel_rfl) (by kernel_rfl) (by kernel_rfl) (fun _ _ _ h => h) (trivial) ⟨?_, fun w hSw => ?_⟩ ?_
        rotate_left 1
        · rfl
        · (go_simp; all_goals with_reducible rfl)
        simp only [Act.put, List.setIfInBounds_toArray, List.set_cons_zero, List.set_cons_succ]
        refine held_step (i := 6) rfl (by kernel_rfl) ?_ (fun K hK => ?_)
        · rfl
        go_simp
        have HL11 : Hid (Below wa.heap.size wa (wa.alloc (.cells #[.int .i64 s, .int .i64 o, .string k] 38))) := (Below.refl _ _).alloc (Nat.le_refl _) _
        have HX11 := Lib.hid (heap_alloc_new wa (.cells #[.int .i64 s, .int .i64 o, .string k] 38))
        have HK11 := Lib.hid (HKa.out.trans (Kept.alloc wa (.cells #[.int .i64 s, .int .i64 o, .string k] 38)))
        have HR11 := Lib.hid (HRa.out.new HL11.out)
        clear HL11
        generalize wa.alloc (.cells #[.int .i64 s, .int .i64 o, .string k] 38) = w11x at *
        generalize wa.heap.size = q11 at *
        refine hK _ _ (trivial) ?_
        clear hK K
        simp only [List.setIfInBounds_toArray, List.set_cons_zero, List.set_cons_succ]
        refine held_step (i := 7) rfl (by kernel_rfl) ?_ (fun K hK => ?_)
        · rfl
        refine op_one_to (Sh := entS) 73 rfl (.tmp 67) (.tmp 72) 26 rfl Try.underlying26 info_ent rfl vz 0 (L1.take 0) rfl HR11.out q11 1 ⟨s, o, k⟩ rfl HX11.out (by omega) (by omega) ?_
        intro v12 w12x hr12 hk12
        have HR12 := Lib.hid (hr12.mono fun k _ h => h.elim id fun h => by have := HZ.out; have := HK11.out.size; have h : w11x.heap.size ≤ k := h; omega)
        have HK12 := Lib.hid (HK11.out.trans hk12)
        clear hr12 hk12
        refine hK _ _ (trivial) ?_
        clear hK K
        simp only [Act.put, List.setIfInBounds_toArray, List.set_cons_zero, List.set_cons_succ]
        refine held_step (i := 14) rfl (by kernel_rfl) ?_ (fun K hK => ?_)
        · rfl
        refine op_srow_to 80 rfl (.tmp 73) (.tmp 79) 26 rfl 38 _ 3 32 Try.underlying26 info_ent (by rfl) (by decide) v12 (0 + 1) (entS.flat (L1.take 0 ++ [⟨s, o, k⟩])) rfl HR12.out _ _ _ (entS.flat (L1.drop 0)) rfl (fun _ => ⟨by omega, by omega⟩) HLD.out (fun ad e => by cases e) (Shape.flat_one' entS _) (by unfold maxLen; omega) (by omega) ?_
        intro v13 w13x hr13 hk13
        have HK13 := Lib.hid (HK12.out.trans hk13)
        have HR13 := Lib.hid (hr13.mono fun k _ h => h.elim id fun h => by have := HZ.out; have := HK12.out.size; have h : w12x.heap.size ≤ k := h; omega)
        clear hr13 hk13
        obtain ⟨A13, c13, ev13, -⟩ := HR13.out.open_
        subst ev13
        refine hK _ _ (trivial) ?_
        clear hK K
        simp only [Act.put, List.setIfInBounds_toArray, List.set_cons_zero, List.set_cons_succ]
        refine held_take (i := 15) (v := ?_) (d := some 81) rfl rfl (by kernel_rfl) (by kernel_rfl) (by kernel_rfl) (fun _ _ _ h => h) (trivial) ⟨?_, fun w hSw => ?_⟩ ?_
        rotate_left 1
        · rfl
        · (go_simp; all_goals with_reducible rfl)
        simp only [Act.put, List.setIfInBounds_toArray, List.set_cons_zero, List.set_cons_succ]
        refine held_take (i := 16) (v := ?_) (d := some 82) rfl rfl (by kernel_rfl) (by kernel_rfl) (by kernel_rfl) (fun _ _ _ h => h) (trivial) ⟨?_, fun w hSw => ?_⟩ ?_
        rotate_left 1
        · rfl
        · (go_simp; all_goals with_reducible rfl)
        simp only [Act.put, List.setIfInBounds_toArray, List.set_cons_zero, List.set_cons_succ]
        refine held_step (i := 17) rfl (by kernel_rfl) ?_ (fun K hK => ?_)
        · rfl
        have z0 := HCM.out _ HK13.out
        have g0 := HFM.out _ HK13.out
        go_simp
        clear z0 g0
        refine hK _ _ (trivial) ?_
        clear hK K
        simp only [List.setIfInBounds_toArray, List.set_cons_zero, List.set_cons_succ]
        refine wpAnyH_done (by kernel_rfl) ?_ _
        have HE := Lib.hid (cr_new HZ.out HB1.out HK13.out HRM.out HM0.out (HHM.out _ HK13.out) HR13.out)
        go_wp2_with fail
        go_end0
        exact HFIN.out _ HE.out.1 HE.out.2
    · clear hnilc
      have hic : i ≤ c := by omega
      go_wp2_with (at_builtin; refine BigFrame.wpList_want rfl fun K hK => ?_; refine Classical.byContradiction fun hstop => ?_)
      refine hstop ?_
      refine op_append_srow (.const (.slice none 0 0)) (.tmp 64) 26 rfl 38 _ 3 32 Try.underlying26 info_ent (by rfl) (by decide) (.slice none 0 0) 0 [] rfl (SRow.nil (S := fun k => z ≤ k)) _ _ _ (entS.flat (L1.take i)) rfl (fun e => by cases e) HLT.out (srow_front (Sh := entS) (HRV.out _ (Kept.refl _ _)) i) (Shape.flat_one' entS _) (by unfold maxLen; omega) (by omega) ?_
      intro vz wz hr2 hk2
      refine hK _ _ ?_
      have HRz : Hid (SRow (fun k => z ≤ k) 38 3 wz vz i (entS.flat (L1.take i))) := by rw [Nat.zero_add, List.nil_append] at hr2; exact hr2.mono fun k _ h => h.elim id fun h => by have := HZ.out; have h : w1.heap.size ≤ k := h; omega
      have HKz := Lib.hid hk2
      clear hr2 hk2 hstop hK K
      go_upto_region 5 with fail
      have HKa : Hid (Kept (fun k => z ≤ k) w1 wz.drew) := ch_drew HKz.out
      have HRa : Hid (SRow (fun k => z ≤ k) 38 3 wz.drew vz _ _) := HRz.out.new ⟨rfl, rfl, rfl, Nat.le_refl _, fun _ _ => rfl⟩
      clear HKz HRz
      refine wp_region_held_drew (S := fun _ => True) (by kernel_rfl) (trivial) (fun hH => ?_)
      change wpAnyH _ _ _ _ _ 18 #[false, false, false, false, false, false, false, false, false, false, false, false, false, false, false, false, false, false] _ _
      clear hH
      generalize wz.drew = wa at *
      refine held_take (i := 0) (v := ?_) (d := some 66) rfl rfl (by kernel_rfl) (by kernel_rfl) (by kernel_rfl) (fun _ _ _ h => h) (trivial) ⟨?_, fun w hSw => ?_⟩ ?_
      rotate_left 1
      · rfl
      · (go_simp; all_goals with_reducible rfl)
      simp only [Act.put, List.setIfInBounds_toArray, List.set_cons_zero, List.set_cons_succ]
      refine held_take (i := 1) (v := ?_) (d := some 67) rfl rfl (by kernel_rfl) (by kernel_rfl) (by kernel_rfl) (fun _ _ _ h => h) (trivial) ⟨?_, fun w hSw => ?_⟩ ?_
      rotate_left 1
      · rfl
      · (go_simp; all_goals with_reducible rfl)
      simp only [Act.put, List.setIfInBounds_toArray, List.set_cons_zero, List.set_cons_succ]
      refine held_take (i := 2) (v := ?_) (d := some 68) rfl rfl (by kernel_rfl) (by kernel_rfl) (by kernel_rfl) (fun _ _ _ h => h) (trivial) ⟨?_, fun w hSw => ?_⟩ ?_
      rotate_left 1
      · rfl
      · (go_simp; all_goals with_reducible rfl)
      simp only [Act.put, List.setIfInBounds_toArray, List.set_cons_zero, List.set_cons_succ]
      refine held_take (i := 3) (v := ?_) (d := some 69) rfl rfl (by kernel_rfl) (by kernel_rfl) (by kernel_rfl) (fun _ _ _ h => h) (trivial) ⟨?_, fun w hSw => ?_⟩ ?_
      rotate_left 1
      · rfl
      · (go_simp; all_goals with_reducible rfl)
      simp only [Act.put, List.setIfInBounds_toArray, List.set_cons_zero, List.set_cons_succ]
      refine held_take (i := 4) (v := ?_) (d := some 70) rfl rfl (by kernel_rfl) (by kernel_rfl) (by kernel_rfl) (fun _ _ _ h => h) (trivial) ⟨?_, fun w hSw => ?_⟩ ?_
      rotate_left 1
      · rfl
      · (go_simp; all_goals with_reducible rfl)
      simp only [Act.put, List.setIfInBounds_toArray, List.set_cons_zero, List.set_cons_succ]
      refine held_take (i := 5) (v := ?_) (d := some 71) rfl rfl (by kernel_rfl) (by kernel_rfl) (by kernel_rfl) (fun _ _ _ h => h) (trivial) ⟨?_, fun w hSw => ?_⟩ ?_
      rotate_left 1
      · rfl
      · (go_simp; all_goals with_reducible rfl)
      simp only [Act.put, List.setIfInBounds_toArray, List.set_cons_zero, List.set_cons_succ]
      refine held_take (i := 8) (v := ?_) (d := some 74) rfl rfl (by kernel_rfl) (by kernel_rfl) (by kernel_rfl) (fun _ _ _ h => h) (trivial) ⟨?_, fun w hSw => ?_⟩ ?_
      rotate_left 1
      · rfl
      · (go_simp; all_goals with_reducible rfl)
      simp only [Act.put, List.setIfInBounds_toArray, List.set_cons_zero, List.set_cons_succ]
      refine held_take (i := 9) (v := ?_) (d := some 75) rfl rfl (by kernel_rfl) (by kernel_rfl) (by kernel_rfl) (fun _ _ _ h => h) (trivial) ⟨?_, fun w hSw => ?_⟩ ?_
      rotate_left 1
      · rfl
      · (go_simp; all_goals with_reducible rfl)
      simp only [Act.put, List.setIfInBounds_toArray, List.set_cons_zero, List.set_cons_succ]
      refine held_take (i := 10) (v := ?_) (d := some 76) rfl rfl (by kernel_rfl) (by kernel_rfl) (by kernel_rfl) (fun _ _ _ h => h) (trivial) ⟨?_, fun w hSw => ?_⟩ ?_
      rotate_left 1
      · rfl
      · (go_simp; all_goals with_reducible rfl)
      simp only [Act.put, List.setIfInBounds_toArray, List.set_cons_zero, List.set_cons_succ]
      refine held_take (i := 12) (v := ?_) (d := some 78) rfl rfl (by kernel_rfl) (by kernel_rfl) (by kernel_rfl) (fun _ _ _ h => h) (trivial) ⟨?_, fun w hSw => ?_⟩ ?_
      rotate_left 1
      · rfl
      · (go_simp; all_goals with_reducible rfl)
      simp only [Act.put, List.setIfInBounds_toArray, List.set_cons_zero, List.set_cons_succ]
      refine hold_two (i := 6) (j := 11) rfl rfl (by kernel_rfl) (by rfl) (by rfl) (fun K hK => ?_) (fun K hK => ?_)
      · go_simp
        have HL1 : Hid (Below wa.heap.size wa (wa.alloc (.cells #[.int .i64 s, .int .i64 o, .string k] 38))) := (Below.refl _ _).alloc (Nat.le_refl _) _
        have HX1 := Lib.hid (heap_alloc_new wa (.cells #[.int .i64 s, .int .i64 o, .string k] 38))
        have HK1 := Lib.hid (HKa.out.trans (Kept.alloc wa (.cells #[.int .i64 s, .int .i64 o, .string k] 38)))
        have HR1 := Lib.hid (HRa.out.new HL1.out)
        clear HL1
        generalize wa.alloc (.cells #[.int .i64 s, .int .i64 o, .string k] 38) = w1x at *
        generalize wa.heap.size = q1 at *
        refine hK _ _ (trivial) ?_
        clear hK K
        simp only [List.setIfInBounds_toArray, List.set_cons_zero, List.set_cons_succ]
        refine hold_two (i := 7) (j := 11) rfl rfl (by kernel_rfl) (by rfl) (by rfl) (fun K hK => ?_) (fun K hK => ?_)
        · refine op_one_to (Sh := entS) 73 rfl (.tmp 67) (.tmp 72) 26 rfl Try.underlying26 info_ent rfl vz i (L1.take i) rfl HR1.out q1 1 ⟨s, o, k⟩ rfl HX1.out (by omega) (by omega) ?_
          intro v2 w2x hr2 hk2
          have HR2 := Lib.hid (hr2.mono fun k _ h => h.elim id fun h => by have := HZ.out; have := HK1.out.size; have h : w1x.heap.size ≤ k := h; omega)
          have HK2 := Lib.hid (HK1.out.trans hk2)
          clear hr2 hk2
          refine hK _ _ (trivial) ?_
          clear hK K
          simp only [Act.put, List.setIfInBounds_toArray, List.set_cons_zero, List.set_cons_succ]
          refine held_step (i := 11) rfl (by kernel_rfl) ?_ (fun K hK => ?_)
          · rfl
          have z0 := HCM.out _ HK2.out
          go_simp
          clear z0
          refine hK _ _ (trivial) ?_
          clear hK K
          simp only [List.setIfInBounds_toArray, List.set_cons_zero, List.set_cons_succ]
          refine held_take (i := 13) (v := ?_) (d := some 79) rfl rfl (by kernel_rfl) (by kernel_rfl) (by kernel_rfl) (fun _ _ _ h => h) (trivial) ⟨?_, fun w hSw => ?_⟩ ?_
          rotate_left 1
          · rfl
          · (go_simp; all_goals with_reducible rfl)
          simp only [Act.put, List.setIfInBounds_toArray, List.set_cons_zero, List.set_cons_succ]
          refine held_step (i := 14) rfl (by kernel_rfl) ?_ (fun K hK => ?_)
          · rfl
          refine op_srow_to 80 rfl (.tmp 73) (.tmp 79) 26 rfl 38 _ 3 32 Try.underlying26 info_ent (by rfl) (by decide) v2 (i + 1) (entS.flat (L1.take i ++ [⟨s, o, k⟩])) rfl HR2.out _ _ _ (entS.flat (L1.drop i)) rfl (fun e => by split at e <;> cases e) HLD.out (srow_back_if (HRV.out _ HK2.out) i HIL.out) (Shape.flat_one' entS _) (by unfold maxLen; omega) (by omega) ?_
          intro v4 w4x hr4 hk4
          have HK4 := Lib.hid (HK2.out.trans hk4)
          have HR4 := Lib.hid (hr4.mono fun k _ h => h.elim id fun h => by have := HZ.out; have := HK2.out.size; have h : w2x.heap.size ≤ k := h; omega)
          clear hr4 hk4
          obtain ⟨A4, c4, ev4, -⟩ := HR4.out.open_
          subst ev4
          refine hK _ _ (trivial) ?_
          clear hK K
          simp only [Act.put, List.setIfInBounds_toArray, List.set_cons_zero, List.set_cons_succ]
          refine held_take (i := 15) (v := ?_) (d := some 81) rfl rfl (by kernel_rfl) (by kernel_rfl) (by kernel_rfl) (fun _ _ _ h => h) (trivial) ⟨?_, fun w hSw => ?_⟩ ?_
          rotate_left 1
          · rfl
          · (go_simp; all_goals with_reducible rfl)
          simp only [Act.put, List.setIfInBounds_toArray, List.set_cons_zero, List.set_cons_succ]
          refine held_take (i := 16) (v := ?_) (d := some 82) rfl rfl (by kernel_rfl) (by kernel_rfl) (by kernel_rfl) (fun _ _ _ h => h) (trivial) ⟨?_, fun w hSw => ?_⟩ ?_
          rotate_left 1
          · rfl
          · (go_simp; all_goals with_reducible rfl)
          simp only [Act.put, List.setIfInBounds_toArray, List.set_cons_zero, List.set_cons_succ]
          refine held_step (i := 17) rfl (by kernel_rfl) ?_ (fun K hK => ?_)
          · rfl
          generalize (if c = i then some (⟨g, 0, none⟩ : Addr) else some ⟨g, i * 3, none⟩) = pz
          have z0 := HCM.out _ HK4.out
          have g0 := HFM.out _ HK4.out
          go_simp
          clear z0 g0
          refine hK _ _ (trivial) ?_
          clear hK K
          simp only [List.setIfInBounds_toArray, List.set_cons_zero, List.set_cons_succ]
          refine wpAnyH_done (by kernel_rfl) ?_ _
          have HE := Lib.hid (cr_new HZ.out HB1.out HK4.out HRM.out HM0.out (HHM.out _ HK4.out) HR4.out)
          go_wp2_with fail
          go_end0
          exact HFIN.out _ HE.out.1 HE.out.2
        · have z0 := HCM.out _ HK1.out
          go_simp
          clear z0
          refine hK _ _ (trivial) ?_
          clear hK K
          simp only [List.setIfInBounds_toArray, List.set_cons_zero, List.set_cons_succ]
          refine held_take (i := 13) (v := ?_) (d := some 79) rfl rfl (by kernel_rfl) (by kernel_rfl) (by kernel_rfl) (fun _ _ _ h => h) (trivial) ⟨?_, fun w hSw => ?_⟩ ?_
          rotate_left 1
          · rfl
          · (go_simp; all_goals with_reducible rfl)
          simp only [Act.put, List.setIfInBounds_toArray, List.set_cons_zero, List.set_cons_succ]
          refine held_step (i := 7) rfl (by kernel_rfl) ?_ (fun K hK => ?_)
          · rfl
          refine op_one_to (Sh := entS) 73 rfl (.tmp 67) (.tmp 72) 26 rfl Try.underlying26 info_ent rfl vz i (L1.take i) rfl HR1.out q1 1 ⟨s, o, k⟩ rfl HX1.out (by omega) (by omega) ?_
          intro v7 w7x hr7 hk7
          have HR7 := Lib.hid (hr7.mono fun k _ h => h.elim id fun h => by have := HZ.out; have := HK1.out.size; have h : w1x.heap.size ≤ k := h; omega)
          have HK7 := Lib.hid (HK1.out.trans hk7)
          clear hr7 hk7
          refine hK _ _ (trivial) ?_
          clear hK K
          simp only [Act.put, List.setIfInBounds_toArray, List.set_cons_zero, List.set_cons_succ]
          refine held_step (i := 14) rfl (by kernel_rfl) ?_ (fun K hK => ?_)
          · rfl
          refine op_srow_to 80 rfl (.tmp 73) (.tmp 79) 26 rfl 38 _ 3 32 Try.underlying26 info_ent (by rfl) (by decide) v7 (i + 1) (entS.flat (L1.take i ++ [⟨s, o, k⟩])) rfl HR7.out _ _ _ (entS.flat (L1.drop i)) rfl (fun e => by split at e <;> cases e) HLD.out (srow_back_if (HRV.out _ HK7.out) i HIL.out) (Shape.flat_one' entS _) (by unfold maxLen; omega) (by omega) ?_
          intro v8 w8x hr8 hk8
          have HK8 := Lib.hid (HK7.out.trans hk8)
          have HR8 := Lib.hid (hr8.mono fun k _ h => h.elim id fun h => by have := HZ.out; have := HK7.out.size; have h : w7x.heap.size ≤ k := h; omega)
          clear hr8 hk8
          obtain ⟨A8, c8, ev8, -⟩ := HR8.out.open_
          subst ev8
          refine hK _ _ (trivial) ?_
          clear hK K
          simp only [Act.put, List.setIfInBounds_toArray, List.set_cons_zero, List.set_cons_succ]
          refine held_take (i := 15) (v := ?_) (d := some 81) rfl rfl (by kernel_rfl) (by kernel_rfl) (by kernel_rfl) (fun _ _ _ h => h) (trivial) ⟨?_, fun w hSw => ?_⟩ ?_
          rotate_left 1
          · rfl
          · (go_simp; all_goals with_reducible rfl)
          simp only [Act.put, List.setIfInBounds_toArray, List.set_cons_zero, List.set_cons_succ]
          refine held_take (i := 16) (v := ?_) (d := some 82) rfl rfl (by kernel_rfl) (by kernel_rfl) (by kernel_rfl) (fun _ _ _ h => h) (trivial) ⟨?_, fun w hSw => ?_⟩ ?_
          rotate_left 1
          · rfl
          · (go_simp; all_goals with_reducible rfl)
          simp only [Act.put, List.setIfInBounds_toArray, List.set_cons_zero, List.set_cons_succ]
          refine held_step (i := 17) rfl (by kernel_rfl) ?_ (fun K hK => ?_)
          · rfl
          generalize (if c = i then some (⟨g, 0, none⟩ : Addr) else some ⟨g, i * 3, none⟩) = pz
          have z0 := HCM.out _ HK8.out
          have g0 := HFM.out _ HK8.out
          go_simp
          clear z0 g0
          refine hK _ _ (trivial) ?_
          clear hK K
          simp only [List.setIfInBounds_toArray, List.set_cons_zero, List.set_cons_succ]
          refine wpAnyH_done (by kernel_rfl) ?_ _
          have HE := Lib.hid (cr_new HZ.out HB1.out HK8.out HRM.out HM0.out (HHM.out _ HK8.out) HR8.out)
          go_wp2_with fail
          go_end0
          exact HFIN.out _ HE.out.1 HE.out.2
      · have z0 := HCM.out _ HKa.out
        go_simp
        clear z0
        refine hK _ _ (trivial) ?_
        clear hK K
        simp only [List.setIfInBounds_toArray, List.set_cons_zero, List.set_cons_succ]
        refine held_take (i := 13) (v := ?_) (d := some 79) rfl rfl (by kernel_rfl) (by kernel_rfl) (by kernel_rfl) (fun _ _ _ h => h) (trivial) ⟨?_, fun w hSw => ?_⟩ ?_
        rotate_left 1
        · rfl
        · (go_simp; all_goals with_reducible rfl)
        simp only [Act.put, List.setIfInBounds_toArray, List.set_cons_zero, List.set_cons_succ]
        refine held_step (i := 6) rfl (by kernel_rfl) ?_ (fun K hK => ?_)
        · rfl
        go_simp
        have HL11 : Hid (Below wa.heap.size wa (wa.alloc (.cells #[.int .i64 s, .int .i64 o, .string k] 38))) := (Below.refl _ _).alloc (Nat.le_refl _) _
        have HX11 := Lib.hid (heap_alloc_new wa (.cells #[.int .i64 s, .int .i64 o, .string k] 38))
        have HK11 := Lib.hid (HKa.out.trans (Kept.alloc wa (.cells #[.int .i64 s, .int .i64 o, .string k] 38)))
        have HR11 := Lib.hid (HRa.out.new HL11.out)
        clear HL11
        generalize wa.alloc (.cells #[.int .i64 s, .int .i64 o, .string k] 38) = w11x at *
        generalize wa.heap.size = q11 at *
        refine hK _ _ (trivial) ?_
        clear hK K
        simp only [List.setIfInBounds_toArray, List.set_cons_zero, List.set_cons_succ]
        refine held_step (i := 7) rfl (by kernel_rfl) ?_ (fun K hK => ?_)
        · rfl
        refine op_one_to (Sh := entS) 73 rfl (.tmp 67) (.tmp 72) 26 rfl Try.underlying26 info_ent rfl vz i (L1.take i) rfl HR11.out q11 1 ⟨s, o, k⟩ rfl HX11.out (by omega) (by omega) ?_
        intro v12 w12x hr12 hk12
        have HR12 := Lib.hid (hr12.mono fun k _ h => h.elim id fun h => by have := HZ.out; have := HK11.out.size; have h : w11x.heap.size ≤ k := h; omega)
        have HK12 := Lib.hid (HK11.out.trans hk12)
        clear hr12 hk12
        refine hK _ _ (trivial) ?_
        clear hK K
        simp only [Act.put, List.setIfInBounds_toArray, List.set_cons_zero, List.set_cons_succ]
        refine held_step (i := 14) rfl (by kernel_rfl) ?_ (fun K hK => ?_)
        · rfl
        refine op_srow_to 80 rfl (.tmp 73) (.tmp 79) 26 rfl 38 _ 3 32 Try.underlying26 info_ent (by rfl) (by decide) v12 (i + 1) (entS.flat (L1.take i ++ [⟨s, o, k⟩])) rfl HR12.out _ _ _ (entS.flat (L1.drop i)) rfl (fun e => by split at e <;> cases e) HLD.out (srow_back_if (HRV.out _ HK12.out) i HIL.out) (Shape.flat_one' entS _) (by unfold maxLen; omega) (by omega) ?_
        intro v13 w13x hr13 hk13
        have HK13 := Lib.hid (HK12.out.trans hk13)
        have HR13 := Lib.hid (hr13.mono fun k _ h => h.elim id fun h => by have := HZ.out; have := HK12.out.size; have h : w12x.heap.size ≤ k := h; omega)
        clear hr13 hk13
        obtain ⟨A13, c13, ev13, -⟩ := HR13.out.open_
        subst ev13
        refine hK _ _ (trivial) ?_
        clear hK K
        simp only [Act.put, List.setIfInBounds_toArray, List.set_cons_zero, List.set_cons_succ]
        refine held_take (i := 15) (v := ?_) (d := some 81) rfl rfl (by kernel_rfl) (by kernel_rfl) (by kernel_rfl) (fun _ _ _ h => h) (trivial) ⟨?_, fun w hSw => ?_⟩ ?_
        rotate_left 1
        · rfl
        · (go_simp; all_goals with_reducible rfl)
        simp only [Act.put, List.setIfInBounds_toArray, List.set_cons_zero, List.set_cons_succ]
        refine held_take (i := 16) (v := ?_) (d := some 82) rfl rfl (by kernel_rfl) (by kernel_rfl) (by kernel_rfl) (fun _ _ _ h => h) (trivial) ⟨?_, fun w hSw => ?_⟩ ?_
        rotate_left 1
        · rfl
        · (go_simp; all_goals with_reducible rfl)
        simp only [Act.put, List.setIfInBounds_toArray, List.set_cons_zero, List.set_cons_succ]
        refine held_step (i := 17) rfl (by kernel_rfl) ?_ (fun K hK => ?_)
        · rfl
        generalize (if c = i then some (⟨g, 0, none⟩ : Addr) else some ⟨g, i * 3, none⟩) = pz
        have z0 := HCM.out _ HK13.out
        have g0 := HFM.out _ HK13.out
        go_simp
        clear z0 g0
        refine hK _ _ (trivial) ?_
        clear hK K
        simp only [List.setIfInBounds_toArray, List.set_cons_zero, List.set_cons_succ]
        refine wpAnyH_done (by kernel_rfl) ?_ _
        have HE := Lib.hid (cr_new HZ.out HB1.out HK13.out HRM.out HM0.out (HHM.out _ HK13.out) HR13.out)
        go_wp2_with fail
        go_end0
        exact HFIN.out _ HE.out.1 HE.out.2
end Go.Proofs.Ytlhjofcpcccdpaa
