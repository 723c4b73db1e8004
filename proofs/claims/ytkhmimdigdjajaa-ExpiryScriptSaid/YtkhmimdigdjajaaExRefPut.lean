/-
  The reference's Remove and Put.
-/
import Derived.Test.YtkhmimdigdjajaaExRef
set_option maxRecDepth 100000
namespace Go.Proofs.Ytkhmimdigdjajaa
open Go.RowKit Go.Maps
/-- What the reference's Remove and Put leave. -/
def RQ (R : Nat → Prop) (m : Nat) (L' : List Ex.On) (w : World) (e : Ending) (w' : World) : Prop :=
  e = .returned (.tuple #[]) ∧ Kept R w w' ∧ QR (Snc R w w') w' m L'
set_option maxHeartbeats 8000000 in
theorem refqrem_any (m : Nat) (k : ByteArray) (L : List Ex.On) (R : Nat → Prop) (w : World) (hL : L.length ≤ 1000) (hS : Hid (Ex.Ks L)) (hT : Hid (QR R w m L)) :
    Calls Try.prog 11 #[.pointer (some ⟨m, 0, none⟩), .string k] w (RQ R m (Ex.rem L k) w) := by
  have HM0 := Lib.hid hT.out.lt
  obtain ⟨A, c, hRm, hm, hsl, hA⟩ := hT.out
  obtain ⟨n, hn⟩ : ∃ n, L.length = n := ⟨_, rfl⟩
  have HAA := Lib.hid hA
  have hcap := hsl.2.2
  have hnc := hsl.2.1
  have hnil := hsl.1
  have c0 := one_cell_of hm
  rw [hn] at hm hL hnc c0 hnil
  have HRM := Lib.hid hRm
  have HHM0 := Lib.hid hm
  have HN := Lib.hid hn
  have HNIL := Lib.hid hnil
  clear hm hsl hn hA hRm hnil
  go_enter Try.func11, Try.ntmps11
  go_wp2_with fail
  go_loopw [4, 10] (fun _ iv wr => ∃ i : Nat, i ≤ n ∧ iv = .int .i64 (i : Int) ∧ Hid (∀ j, j < i → (L.getD j Ex.On0).k ≠ k) ∧ wr = w) (fun _ i _ => n - (Go.RowKit.intOf i).toNat)
  case atStart => exact ⟨0, Nat.zero_le _, rfl, fun j h => absurd h (Nat.not_lt_zero _), rfl⟩
  case round =>
    obtain ⟨i, hi, rfl, hno, rfl⟩ := hrel
    by_cases hlt : i < n
    · have hiL : i < L.length := by rw [HN.out]; exact hlt
      obtain ⟨g, o, rfl, hgl, hgR, hgm, hfl⟩ : ∃ g o, A = some ⟨g, o, none⟩ ∧ g < wr.heap.size ∧ R g ∧ g ≠ m ∧ FlAt wr g o (onS.flat L) := by
        rcases HAA.out with h | h
        · have := (HNIL.out h).2; omega
        · exact h
      obtain ⟨⟨k0, r0⟩, hp⟩ : ∃ p, L.getD i Ex.On0 = p := ⟨_, rfl⟩
      obtain ⟨m0, m1⟩ := hfl.at_ i hiL _ _ hp
      have HFL := Lib.hid hfl
      have HGL := Lib.hid hgl
      by_cases hss : k0 = k
      · have hse : (k0.toList == k.toList) = true := by rw [hss]; exact beq_self_eq_true _
        subst hss
        obtain ⟨z, hz⟩ : ∃ z, wr.heap.size = z := ⟨_, rfl⟩
        have HZ := Lib.hid hz
        have HSE := Lib.hid (Ex.rem_at hS.out hiL hp)
        obtain ⟨i1, hi1⟩ : ∃ i1, i + 1 = i1 := ⟨_, rfl⟩
        have hi1c : (i : Int) + 1 = (i1 : Int) := by omega
        have hi1n : i1 ≤ n := by omega
        have hic : i ≤ c := by omega
        have hi1cc : i1 ≤ c := by omega
        have hwr : IntKind.i64.wrap (i1 : Int) = (i1 : Int) := by rw [IntKind.wrap_i64]; omega
        rw [hi1] at HSE
        have HFIN : Hid (∀ w', Kept R wr w' → (∀ L' : List Ex.On, onS.flat (L.take i) ++ onS.flat (L.drop i1) = onS.flat L' → QR (Snc R wr w') w' m L') → RQ R m (Ex.rem L k0) wr (.returned (.tuple #[])) w') := fun w' hk hr =>
          ⟨rfl, hk, by rw [HSE.out]; exact hr _ (onS.flat_append _ _).symm⟩
        have HHM : Hid (∀ W, Kept (fun k => z ≤ k) wr W → W.heap[m]? = some (.cells #[.slice (some ⟨g, o, none⟩) n c] 28 (0, 0))) := fun W hW => by
          have hl := (Array.getElem?_eq_some_iff.1 HHM0.out).1
          exact (hW.block m hl (by omega)).trans HHM0.out
        have HCM : Hid (∀ W, Kept (fun k => z ≤ k) wr W → W.cell? ⟨m, 0, none⟩ = some (.slice (some ⟨g, o, none⟩) n c)) := fun W hW => one_cell_of (HHM.out W hW)
        have HFM : Hid (∀ W, Kept (fun k => z ≤ k) wr W → W.frozen? ⟨m, 0, none⟩ = false) := fun W hW => frozen_of_row W m _ _ _ (HHM.out W hW)
        have HRV : Hid (∀ W, Kept (fun k => z ≤ k) wr W → FlAt W g o (onS.flat L)) := fun W hW => HFL.out.kept hW HGL.out (by have := HGL.out; omega)
        have HLT : Hid ((onS.flat (L.take i)).length = i * 2) := on_take (by rw [HN.out]; exact hi)
        have HLD : Hid ((onS.flat (L.drop i1)).length = (n - i1) * 2) := on_drop HN.out
        have HIL : Hid (i1 ≤ L.length) := by show _ ≤ _; rw [HN.out]; exact hi1n
        have HKa : Hid (Kept (fun k => z ≤ k) wr wr.drew) := kept_drew' (Kept.refl _ _)
        have HB1 : Hid (Below wr.heap.size wr wr) := Below.refl _ _
        clear hz hi1 hT hp hiL hfl hgl hgR hgm
        go_upto_region 4 with fail
        clear m0 m1 c0
        refine wp_region_held_drew (S := fun _ => True) (by kernel_rfl) (trivial) (fun hH => ?_)
        change wpAnyH _ _ _ _ _ 19 #[false, false, false, false, false, false, false, false, false, false, false, false, false, false, false, false, false, false, false] _ _
        clear hH
        generalize wr.drew = wa at *
        refine held_take (i := 0) (v := ?_) (d := some 23) rfl rfl (by kernel_rfl) (by kernel_rfl) (by kernel_rfl) (fun _ _ _ h => h) (trivial) ⟨?_, fun w hSw => ?_⟩ ?_
        rotate_left 1
        · rfl
        · (go_simp; all_goals with_reducible rfl)
        simp only [Act.put, List.setIfInBounds_toArray, List.set_cons_zero, List.set_cons_succ]
        refine held_take (i := 1) (v := ?_) (d := some 24) rfl rfl (by kernel_rfl) (by kernel_rfl) (by kernel_rfl) (fun _ _ _ h => h) (trivial) ⟨?_, fun w hSw => ?_⟩ ?_
        rotate_left 1
        · rfl
        · (go_simp; all_goals with_reducible rfl)
        simp only [Act.put, List.setIfInBounds_toArray, List.set_cons_zero, List.set_cons_succ]
        refine held_take (i := 2) (v := ?_) (d := some 25) rfl rfl (by kernel_rfl) (by kernel_rfl) (by kernel_rfl) (fun _ _ _ h => h) (trivial) ⟨?_, fun w hSw => ?_⟩ ?_
        rotate_left 1
        · rfl
        · (go_simp; all_goals with_reducible rfl)
        simp only [Act.put, List.setIfInBounds_toArray, List.set_cons_zero, List.set_cons_succ]
        refine held_take (i := 3) (v := ?_) (d := some 26) rfl rfl (by kernel_rfl) (by kernel_rfl) (by kernel_rfl) (fun _ _ _ h => h) (trivial) ⟨?_, fun w hSw => ?_⟩ ?_
        rotate_left 1
        · rfl
        · (go_simp; all_goals with_reducible rfl)
        simp only [Act.put, List.setIfInBounds_toArray, List.set_cons_zero, List.set_cons_succ]
        refine held_take (i := 5) (v := ?_) (d := some 28) rfl rfl (by kernel_rfl) (by kernel_rfl) (by kernel_rfl) (fun _ _ _ h => h) (trivial) ⟨?_, fun w hSw => ?_⟩ ?_
        rotate_left 1
        · rfl
        · (go_simp; all_goals with_reducible rfl)
        simp only [Act.put, List.setIfInBounds_toArray, List.set_cons_zero, List.set_cons_succ]
        refine held_take (i := 8) (v := ?_) (d := some 31) rfl rfl (by kernel_rfl) (by kernel_rfl) (by kernel_rfl) (fun _ _ _ h => h) (trivial) ⟨?_, fun w hSw => ?_⟩ ?_
        rotate_left 1
        · rfl
        · (go_simp; all_goals with_reducible rfl)
        simp only [Act.put, List.setIfInBounds_toArray, List.set_cons_zero, List.set_cons_succ]
        refine held_take (i := 9) (v := ?_) (d := some 32) rfl rfl (by kernel_rfl) (by kernel_rfl) (by kernel_rfl) (fun _ _ _ h => h) (trivial) ⟨?_, fun w hSw => ?_⟩ ?_
        rotate_left 1
        · rfl
        · (go_simp; all_goals with_reducible rfl)
        simp only [Act.put, List.setIfInBounds_toArray, List.set_cons_zero, List.set_cons_succ]
        refine held_take (i := 10) (v := ?_) (d := some 33) rfl rfl (by kernel_rfl) (by kernel_rfl) (by kernel_rfl) (fun _ _ _ h => h) (trivial) ⟨?_, fun w hSw => ?_⟩ ?_
        rotate_left 1
        · rfl
        · (go_simp; all_goals with_reducible rfl)
        simp only [Act.put, List.setIfInBounds_toArray, List.set_cons_zero, List.set_cons_succ]
        refine held_take (i := 12) (v := ?_) (d := some 35) rfl rfl (by kernel_rfl) (by kernel_rfl) (by kernel_rfl) (fun _ _ _ h => h) (trivial) ⟨?_, fun w hSw => ?_⟩ ?_
        rotate_left 1
        · rfl
        · (go_simp; all_goals with_reducible rfl)
        simp only [Act.put, List.setIfInBounds_toArray, List.set_cons_zero, List.set_cons_succ]
        refine held_take (i := 13) (v := ?_) (d := some 36) rfl rfl (by kernel_rfl) (by kernel_rfl) (by kernel_rfl) (fun _ _ _ h => h) (trivial) ⟨?_, fun w hSw => ?_⟩ ?_
        rotate_left 1
        · rfl
        · (go_simp; all_goals with_reducible rfl)
        simp only [Act.put, List.setIfInBounds_toArray, List.set_cons_zero, List.set_cons_succ]
        refine hold_two (i := 4) (j := 11) rfl rfl (by kernel_rfl) (by rfl) (by rfl) (fun K hK => ?_) (fun K hK => ?_)
        · have z0 := HCM.out _ HKa.out
          go_simp
          clear z0
          refine hK _ _ (trivial) ?_
          clear hK K
          simp only [List.setIfInBounds_toArray, List.set_cons_zero, List.set_cons_succ]
          refine held_take (i := 6) (v := ?_) (d := some 29) rfl rfl (by kernel_rfl) (by kernel_rfl) (by kernel_rfl) (fun _ _ _ h => h) (trivial) ⟨?_, fun w hSw => ?_⟩ ?_
          rotate_left 1
          · rfl
          · (go_simp; all_goals with_reducible rfl)
          simp only [Act.put, List.setIfInBounds_toArray, List.set_cons_zero, List.set_cons_succ]
          refine hold_two (i := 7) (j := 11) rfl rfl (by kernel_rfl) (by rfl) (by rfl) (fun K hK => ?_) (fun K hK => ?_)
          · refine op_srow_to 30 rfl (.const (.slice none 0 0)) (.tmp 29) 26 rfl 39 _ 2 24 Try.underlying26 info_on (by rfl) (by decide) (.slice none 0 0) 0 [] rfl (SRow.nil (S := fun k => z ≤ k)) _ _ _ (onS.flat (L.take i)) rfl (fun e => by cases e) HLT.out ((HRV.out _ HKa.out).front i).src (Shape.flat_one' onS _) (by unfold maxLen; omega) (by omega) ?_
            intro v2 w2x hr2 hk2
            have HK2 := Lib.hid (HKa.out.trans hk2)
            have HR2 := Lib.hid (hr2.mono fun k _ h => h.elim id fun h => by have := HZ.out; have := HKa.out.size; have h : wa.heap.size ≤ k := h; omega)
            clear hr2 hk2
            rw [Nat.zero_add, List.nil_append] at HR2
            refine hK _ _ (trivial) ?_
            clear hK K
            simp only [Act.put, List.setIfInBounds_toArray, List.set_cons_zero, List.set_cons_succ]
            refine held_step (i := 11) rfl (by kernel_rfl) ?_ (fun K hK => ?_)
            · rfl
            have z0 := HCM.out _ HK2.out
            go_simp
            clear z0
            refine hK _ _ (trivial) ?_
            clear hK K
            simp only [List.setIfInBounds_toArray, List.set_cons_zero, List.set_cons_succ]
            refine held_take (i := 14) (v := ?_) (d := some 37) rfl rfl (by kernel_rfl) (by kernel_rfl) (by kernel_rfl) (fun _ _ _ h => h) (trivial) ⟨?_, fun w hSw => ?_⟩ ?_
            rotate_left 1
            · rfl
            · (go_simp; all_goals with_reducible rfl)
            simp only [Act.put, List.setIfInBounds_toArray, List.set_cons_zero, List.set_cons_succ]
            refine held_step (i := 15) rfl (by kernel_rfl) ?_ (fun K hK => ?_)
            · rfl
            refine op_srow_to 38 rfl (.tmp 30) (.tmp 37) 26 rfl 39 _ 2 24 Try.underlying26 info_on (by rfl) (by decide) v2 i (onS.flat (L.take i)) rfl HR2.out _ _ _ (onS.flat (L.drop i1)) rfl (fun e => by split at e <;> cases e) HLD.out ((HRV.out _ HK2.out).srcIf i1 HIL.out HN.out hnc) (Shape.flat_one' onS _) (by unfold maxLen; omega) (by omega) ?_
            intro v4 w4x hr4 hk4
            have HK4 := Lib.hid (HK2.out.trans hk4)
            have HR4 := Lib.hid (hr4.mono fun k _ h => h.elim id fun h => by have := HZ.out; have := HK2.out.size; have h : w2x.heap.size ≤ k := h; omega)
            clear hr4 hk4
            obtain ⟨A4, c4, ev4, -⟩ := HR4.out.open_
            subst ev4
            refine hK _ _ (trivial) ?_
            clear hK K
            simp only [Act.put, List.setIfInBounds_toArray, List.set_cons_zero, List.set_cons_succ]
            refine held_take (i := 16) (v := ?_) (d := some 39) rfl rfl (by kernel_rfl) (by kernel_rfl) (by kernel_rfl) (fun _ _ _ h => h) (trivial) ⟨?_, fun w hSw => ?_⟩ ?_
            rotate_left 1
            · rfl
            · (go_simp; all_goals with_reducible rfl)
            simp only [Act.put, List.setIfInBounds_toArray, List.set_cons_zero, List.set_cons_succ]
            refine held_take (i := 17) (v := ?_) (d := some 40) rfl rfl (by kernel_rfl) (by kernel_rfl) (by kernel_rfl) (fun _ _ _ h => h) (trivial) ⟨?_, fun w hSw => ?_⟩ ?_
            rotate_left 1
            · rfl
            · (go_simp; all_goals with_reducible rfl)
            simp only [Act.put, List.setIfInBounds_toArray, List.set_cons_zero, List.set_cons_succ]
            refine held_step (i := 18) rfl (by kernel_rfl) ?_ (fun K hK => ?_)
            · rfl
            generalize (if c = i1 then some (⟨g, o, none⟩ : Addr) else some ⟨g, o + i1 * 2, none⟩) = pz
            have z0 := HCM.out _ HK4.out
            have g0 := HFM.out _ HK4.out
            go_simp
            clear z0 g0
            refine hK _ _ (trivial) ?_
            clear hK K
            simp only [List.setIfInBounds_toArray, List.set_cons_zero, List.set_cons_succ]
            refine wpAnyH_done (by kernel_rfl) ?_ _
            have HE := Lib.hid (qr_new HZ.out HB1.out HK4.out HRM.out HM0.out (HHM.out _ HK4.out) HR4.out)
            go_wp2_with fail
            (try simp only [Exit.inBlock, Exit.then]); refine bodyPost_ret (results_none rfl _ _ _) rfl ?_
            exact HFIN.out _ HE.out.1 HE.out.2
          · have z0 := HCM.out _ HKa.out
            go_simp
            clear z0
            refine hK _ _ (trivial) ?_
            clear hK K
            simp only [List.setIfInBounds_toArray, List.set_cons_zero, List.set_cons_succ]
            refine held_take (i := 14) (v := ?_) (d := some 37) rfl rfl (by kernel_rfl) (by kernel_rfl) (by kernel_rfl) (fun _ _ _ h => h) (trivial) ⟨?_, fun w hSw => ?_⟩ ?_
            rotate_left 1
            · rfl
            · (go_simp; all_goals with_reducible rfl)
            simp only [Act.put, List.setIfInBounds_toArray, List.set_cons_zero, List.set_cons_succ]
            refine held_step (i := 7) rfl (by kernel_rfl) ?_ (fun K hK => ?_)
            · rfl
            refine op_srow_to 30 rfl (.const (.slice none 0 0)) (.tmp 29) 26 rfl 39 _ 2 24 Try.underlying26 info_on (by rfl) (by decide) (.slice none 0 0) 0 [] rfl (SRow.nil (S := fun k => z ≤ k)) _ _ _ (onS.flat (L.take i)) rfl (fun e => by cases e) HLT.out ((HRV.out _ HKa.out).front i).src (Shape.flat_one' onS _) (by unfold maxLen; omega) (by omega) ?_
            intro v7 w7x hr7 hk7
            have HK7 := Lib.hid (HKa.out.trans hk7)
            have HR7 := Lib.hid (hr7.mono fun k _ h => h.elim id fun h => by have := HZ.out; have := HKa.out.size; have h : wa.heap.size ≤ k := h; omega)
            clear hr7 hk7
            rw [Nat.zero_add, List.nil_append] at HR7
            refine hK _ _ (trivial) ?_
            clear hK K
            simp only [Act.put, List.setIfInBounds_toArray, List.set_cons_zero, List.set_cons_succ]
            refine held_step (i := 15) rfl (by kernel_rfl) ?_ (fun K hK => ?_)
            · rfl
            refine op_srow_to 38 rfl (.tmp 30) (.tmp 37) 26 rfl 39 _ 2 24 Try.underlying26 info_on (by rfl) (by decide) v7 i (onS.flat (L.take i)) rfl HR7.out _ _ _ (onS.flat (L.drop i1)) rfl (fun e => by split at e <;> cases e) HLD.out ((HRV.out _ HK7.out).srcIf i1 HIL.out HN.out hnc) (Shape.flat_one' onS _) (by unfold maxLen; omega) (by omega) ?_
            intro v8 w8x hr8 hk8
            have HK8 := Lib.hid (HK7.out.trans hk8)
            have HR8 := Lib.hid (hr8.mono fun k _ h => h.elim id fun h => by have := HZ.out; have := HK7.out.size; have h : w7x.heap.size ≤ k := h; omega)
            clear hr8 hk8
            obtain ⟨A8, c8, ev8, -⟩ := HR8.out.open_
            subst ev8
            refine hK _ _ (trivial) ?_
            clear hK K
            simp only [Act.put, List.setIfInBounds_toArray, List.set_cons_zero, List.set_cons_succ]
            refine held_take (i := 16) (v := ?_) (d := some 39) rfl rfl (by kernel_rfl) (by kernel_rfl) (by kernel_rfl) (fun _ _ _ h => h) (trivial) ⟨?_, fun w hSw => ?_⟩ ?_
            rotate_left 1
            · rfl
            · (go_simp; all_goals with_reducible rfl)
            simp only [Act.put, List.setIfInBounds_toArray, List.set_cons_zero, List.set_cons_succ]
            refine held_take (i := 17) (v := ?_) (d := some 40) rfl rfl (by kernel_rfl) (by kernel_rfl) (by kernel_rfl) (fun _ _ _ h => h) (trivial) ⟨?_, fun w hSw => ?_⟩ ?_
            rotate_left 1
            · rfl
            · (go_simp; all_goals with_reducible rfl)
            simp only [Act.put, List.setIfInBounds_toArray, List.set_cons_zero, List.set_cons_succ]
            refine held_step (i := 18) rfl (by kernel_rfl) ?_ (fun K hK => ?_)
            · rfl
            generalize (if c = i1 then some (⟨g, o, none⟩ : Addr) else some ⟨g, o + i1 * 2, none⟩) = pz
            have z0 := HCM.out _ HK8.out
            have g0 := HFM.out _ HK8.out
            go_simp
            clear z0 g0
            refine hK _ _ (trivial) ?_
            clear hK K
            simp only [List.setIfInBounds_toArray, List.set_cons_zero, List.set_cons_succ]
            refine wpAnyH_done (by kernel_rfl) ?_ _
            have HE := Lib.hid (qr_new HZ.out HB1.out HK8.out HRM.out HM0.out (HHM.out _ HK8.out) HR8.out)
            go_wp2_with fail
            (try simp only [Exit.inBlock, Exit.then]); refine bodyPost_ret (results_none rfl _ _ _) rfl ?_
            exact HFIN.out _ HE.out.1 HE.out.2
        · have z0 := HCM.out _ HKa.out
          go_simp
          clear z0
          refine hK _ _ (trivial) ?_
          clear hK K
          simp only [List.setIfInBounds_toArray, List.set_cons_zero, List.set_cons_succ]
          refine held_take (i := 14) (v := ?_) (d := some 37) rfl rfl (by kernel_rfl) (by kernel_rfl) (by kernel_rfl) (fun _ _ _ h => h) (trivial) ⟨?_, fun w hSw => ?_⟩ ?_
          rotate_left 1
          · rfl
          · (go_simp; all_goals with_reducible rfl)
          simp only [Act.put, List.setIfInBounds_toArray, List.set_cons_zero, List.set_cons_succ]
          refine held_step (i := 4) rfl (by kernel_rfl) ?_ (fun K hK => ?_)
          · rfl
          have z0 := HCM.out _ HKa.out
          go_simp
          clear z0
          refine hK _ _ (trivial) ?_
          clear hK K
          simp only [List.setIfInBounds_toArray, List.set_cons_zero, List.set_cons_succ]
          refine held_take (i := 6) (v := ?_) (d := some 29) rfl rfl (by kernel_rfl) (by kernel_rfl) (by kernel_rfl) (fun _ _ _ h => h) (trivial) ⟨?_, fun w hSw => ?_⟩ ?_
          rotate_left 1
          · rfl
          · (go_simp; all_goals with_reducible rfl)
          simp only [Act.put, List.setIfInBounds_toArray, List.set_cons_zero, List.set_cons_succ]
          refine held_step (i := 7) rfl (by kernel_rfl) ?_ (fun K hK => ?_)
          · rfl
          refine op_srow_to 30 rfl (.const (.slice none 0 0)) (.tmp 29) 26 rfl 39 _ 2 24 Try.underlying26 info_on (by rfl) (by decide) (.slice none 0 0) 0 [] rfl (SRow.nil (S := fun k => z ≤ k)) _ _ _ (onS.flat (L.take i)) rfl (fun e => by cases e) HLT.out ((HRV.out _ HKa.out).front i).src (Shape.flat_one' onS _) (by unfold maxLen; omega) (by omega) ?_
          intro v12 w12x hr12 hk12
          have HK12 := Lib.hid (HKa.out.trans hk12)
          have HR12 := Lib.hid (hr12.mono fun k _ h => h.elim id fun h => by have := HZ.out; have := HKa.out.size; have h : wa.heap.size ≤ k := h; omega)
          clear hr12 hk12
          rw [Nat.zero_add, List.nil_append] at HR12
          refine hK _ _ (trivial) ?_
          clear hK K
          simp only [Act.put, List.setIfInBounds_toArray, List.set_cons_zero, List.set_cons_succ]
          refine held_step (i := 15) rfl (by kernel_rfl) ?_ (fun K hK => ?_)
          · rfl
          refine op_srow_to 38 rfl (.tmp 30) (.tmp 37) 26 rfl 39 _ 2 24 Try.underlying26 info_on (by rfl) (by decide) v12 i (onS.flat (L.take i)) rfl HR12.out _ _ _ (onS.flat (L.drop i1)) rfl (fun e => by split at e <;> cases e) HLD.out ((HRV.out _ HK12.out).srcIf i1 HIL.out HN.out hnc) (Shape.flat_one' onS _) (by unfold maxLen; omega) (by omega) ?_
          intro v13 w13x hr13 hk13
          have HK13 := Lib.hid (HK12.out.trans hk13)
          have HR13 := Lib.hid (hr13.mono fun k _ h => h.elim id fun h => by have := HZ.out; have := HK12.out.size; have h : w12x.heap.size ≤ k := h; omega)
          clear hr13 hk13
          obtain ⟨A13, c13, ev13, -⟩ := HR13.out.open_
          subst ev13
          refine hK _ _ (trivial) ?_
          clear hK K
          simp only [Act.put, List.setIfInBounds_toArray, List.set_cons_zero, List.set_cons_succ]
          refine held_take (i := 16) (v := ?_) (d := some 39) rfl rfl (by kernel_rfl) (by kernel_rfl) (by kernel_rfl) (fun _ _ _ h => h) (trivial) ⟨?_, fun w hSw => ?_⟩ ?_
          rotate_left 1
          · rfl
          · (go_simp; all_goals with_reducible rfl)
          simp only [Act.put, List.setIfInBounds_toArray, List.set_cons_zero, List.set_cons_succ]
          refine held_take (i := 17) (v := ?_) (d := some 40) rfl rfl (by kernel_rfl) (by kernel_rfl) (by kernel_rfl) (fun _ _ _ h => h) (trivial) ⟨?_, fun w hSw => ?_⟩ ?_
          rotate_left 1
          · rfl
          · (go_simp; all_goals with_reducible rfl)
          simp only [Act.put, List.setIfInBounds_toArray, List.set_cons_zero, List.set_cons_succ]
          refine held_step (i := 18) rfl (by kernel_rfl) ?_ (fun K hK => ?_)
          · rfl
          generalize (if c = i1 then some (⟨g, o, none⟩ : Addr) else some ⟨g, o + i1 * 2, none⟩) = pz
          have z0 := HCM.out _ HK13.out
          have g0 := HFM.out _ HK13.out
          go_simp
          clear z0 g0
          refine hK _ _ (trivial) ?_
          clear hK K
          simp only [List.setIfInBounds_toArray, List.set_cons_zero, List.set_cons_succ]
          refine wpAnyH_done (by kernel_rfl) ?_ _
          have HE := Lib.hid (qr_new HZ.out HB1.out HK13.out HRM.out HM0.out (HHM.out _ HK13.out) HR13.out)
          go_wp2_with fail
          (try simp only [Exit.inBlock, Exit.then]); refine bodyPost_ret (results_none rfl _ _ _) rfl ?_
          exact HFIN.out _ HE.out.1 HE.out.2
      · have hse : (k0.toList == k.toList) = false := by
          rw [beq_eq_false_iff_ne, Lib.toList_data, Lib.toList_data]
          exact fun e => hss (Tb.data_inj e)
        have HNX : Hid (∀ j, j < i + 1 → (L.getD j Ex.On0).k ≠ k) := fun j hj => by
          rcases Nat.lt_or_ge j i with h | h
          · exact hno.out j h
          · obtain rfl : j = i := by omega
            rw [hp]; exact hss
        clear hss hp hiL hfl hgl hgR hgm
        go_wp2_with fail
        go_roundw
        case rel => exact ⟨i + 1, by omega, by go_num, HNX, trivial⟩
        case measure => simp [Go.RowKit.intOf]; omega
    · obtain rfl : i = n := by omega
      have HFIN : Hid (RQ R m (Ex.rem L k) wr (.returned (.tuple #[])) wr) := by
        refine ⟨rfl, Kept.refl _ _, ?_⟩
        rw [Ex.rem_no fun x hx e => by
          obtain ⟨j, hj, rfl⟩ := List.getElem_of_mem hx
          refine hno.out j (by rw [← HN.out]; exact hj) ?_
          rw [List.getD_eq_getElem?_getD, List.getElem?_eq_getElem hj]
          exact e]
        exact hT.out.mono fun k _ h => .inl h
      clear hlt
      go_wp2_with fail
      go_end0
      exact HFIN.out
end Go.Proofs.Ytkhmimdigdjajaa
