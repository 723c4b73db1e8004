/-
  The walks of the reference of layer 15: Stream, Records, Region.
-/
import Derived.Test.YtgnbmmceffolmaaGreatDoorScRefF
import Derived.Test.YtgnbmmceffolmaaGreatDoorFoldR
set_option maxRecDepth 100000
namespace Go.Proofs.YtgnbmmceffolmaaGreatDoor
open Go.RowKit
set_option maxHeartbeats 2000000 in
theorem refscstream_any (a b c d slot seq : Int) (ga n cp B : Nat) (img : List Nat) (w : World) (hs63 : seq ≤ 9223372036854775807) (hB : B ≤ w.heap.size) (hl : img.length = n) (hn : n ≤ 67108864) (hc : n ≤ cp ∧ cp ≤ 9223372036854775807) (hb : Hid (Bs w B (some ⟨ga, 0, none⟩) img)) :
    Calls Tryz.prog 38 #[.slice (some ⟨ga, 0, none⟩) n cp, .agg #[.int .i64 a, .int .i64 b, .int .i64 c, .int .i64 d], .int .i64 slot, .int .i64 seq] w (BytesIs w (if Gm.has ⟨a, b, c, d⟩ slot then Sc.stream img ⟨a, b, c, d⟩ slot seq 0 (c - 1).toNat else [])) := by
  have HS0 := Lib.hid (sd_new w #[.int .i64 a, .int .i64 b, .int .i64 c, .int .i64 d] 29)
  unfold BytesIs
  by_cases hh : Gm.has ⟨a, b, c, d⟩ slot
  · rw [if_pos hh]
    have hf := Gm.form_nums hh.1
    have hsp := Gm.spot_small hh.1 (s := slot) hh.2.1 (Int.le_of_lt hh.2.2)
    have hx : 74 ≤ Gm.spot ⟨a, b, c, d⟩ slot ∧ Gm.spot ⟨a, b, c, d⟩ slot ≤ 1000000 := by unfold Gm.spot; simp only at hsp ⊢; omega
    simp only at hf
    obtain ⟨N, hN⟩ : ∃ N : Nat, c = ((N + 1 : Nat) : Int) := ⟨(c - 1).toNat, by omega⟩
    have hN1 : N ≤ 4096 := by omega
    have HCN : Hid ((c - 1).toNat = N) := by show _ = _; omega
    rw [HCN.out]
    have CS : Hid (∀ W, Calls Tryz.prog 24 #[.agg #[.int .i64 a, .int .i64 b, .int .i64 c, .int .i64 d], .int .i64 slot] W (SecsHas W (Gm.secs ⟨a, b, c, d⟩ slot (N + 1)) (N + 1))) := fun W => refsecs_has a b c d slot (N + 1) hN W hh
    have HSX : Hid (∀ i : Nat, i + 1 < N + 1 → ∃ A' n' c', (∀ W, Calls Tryz.prog 26 #[.slice (some ⟨ga, 0, none⟩) n cp, .int .i64 (Pk.sec ⟨a, b, c, d⟩ slot i)] W fun e w' => e = .returned (.slice A' n' c') ∧ W = w') ∧
        ∀ W, Below w.heap.size w W → Calls Tryz.prog 55 #[.int .i64 2, .int .i64 seq, .int .i64 (Pk.sec ⟨a, b, c, d⟩ slot i), .slice A' n' c'] W fun e w' => (Fr.good 2 seq (Pk.sec ⟨a, b, c, d⟩ slot i) (sec img (Pk.sec ⟨a, b, c, d⟩ slot i).toNat) ∧ GotFr W (Rc.sub (sec img (Pk.sec ⟨a, b, c, d⟩ slot i).toNat) 1 59) e w') ∨ (¬ Fr.good 2 seq (Pk.sec ⟨a, b, c, d⟩ slot i) (sec img (Pk.sec ⟨a, b, c, d⟩ slot i).toNat) ∧ NoFr W e w')) := fun i hi => by
      obtain ⟨A', n', c', l, h1, h2⟩ := refsector_any ga n cp B img (Pk.sec ⟨a, b, c, d⟩ slot i) w hl hn hc hb.out (by unfold Pk.sec; omega)
      exact ⟨A', n', c', h2, fun W hW => reffr_at h1 hB hs63 W hW⟩
    have HAT : Hid (∀ (W : World) (g : Nat) (lo Bx i : Nat), Arr intS W lo Bx (some ⟨g, 0, none⟩) (Gm.secs ⟨a, b, c, d⟩ slot (N + 1)) → i + 1 < N + 1 → W.cell? ⟨g, i + 1, none⟩ = some (.int .i64 (Pk.sec ⟨a, b, c, d⟩ slot i))) := fun W g lo Bx i h hi => by
      have h1 := ints_at h (i + 1) (by rw [Gm.secs_length]; omega)
      rw [Gm.secs_at _ _ _ _ (by omega), arr_flat, Nat.zero_add] at h1
      rw [h1]
      unfold Pk.sec
      congr 2
      omega
    obtain ⟨i0, hi0, hz0, hz1, hz2⟩ := info_parts info_u8
    have I0 := Lib.hid (And.intro hi0 (And.intro hz0 (And.intro hz1 hz2))); clear hi0 hz0 hz1 hz2
    clear hN hf hsp hx hb HCN
    unfold SecsHas at CS
    unfold GotFr NoFr at HSX
    go_enter Tryz.func38, Tryz.ntmps38
    go_upto_region 1 with fail
    generalize w.alloc (.cells #[.int .i64 a, .int .i64 b, .int .i64 c, .int .i64 d] 29) = w0 at *
    obtain ⟨z0, z1, z2, z3⟩ := four_cells HS0.out.1
    go_wp2_with fail
    refine (CS.out _).mono ?_
    rintro r w2 ⟨gs, cs, rfl, -, harr, hb2⟩
    have HB2 := Lib.hid (HS0.out.2.trans (hb2.mono HS0.out.2.size))
    have HX2 : Hid (∀ i, i + 1 < N + 1 → w2.cell? ⟨gs, i + 1, none⟩ = some (.int .i64 (Pk.sec ⟨a, b, c, d⟩ slot i))) := fun i hi => HAT.out w2 gs _ _ i harr hi
    clear hb2 harr CS HS0 z0 z1 z2 z3 HAT
    obtain ⟨M1, hM1⟩ : ∃ M1, N + 1 = M1 := ⟨_, rfl⟩
    rw [hM1] at HX2 HSX ⊢
    have HM1 := Lib.hid hM1
    clear hM1
    go_wp2_with fail
    go_loopw [9, 11] (fun dv iv wr => ∃ (k j : Nat) (D : List Nat), iv = .int .i64 (j : Int) ∧ Hid (j = k + 1) ∧ slLen dv = 59 * k ∧ Hid (Sc.Part img ⟨a, b, c, d⟩ slot seq N k D) ∧ Hid (wr.ownsRow w2.heap.size 5 1 dv (59 * k) (vals D)) ∧ Hid (Below w2.heap.size w2 wr)) (fun dv _ _ => 59 * N - slLen dv)
    case atStart => exact ⟨0, 1, [], rfl, rfl, rfl, part_first _ _ _ _ _, World.ownsRow_nil _ _ _ _, Below.refl _ _⟩
    case round =>
      obtain ⟨k, j, D, rfl, hj, hlen, hp, hown, hbel⟩ := hrel
      obtain ⟨A1, c1, rfl, hbs, hl1, hn1, hm1, hA1⟩ := own_bytes hown.out hp.out.2.2.1
      have hk := hp.out.1
      have hj2 : j ≤ 100000 := by have := hj.out; omega
      clear hlen hbs hl1 hn1 hm1 hA1
      by_cases hlt : k < N
      · have hjm : j < M1 := by have := hj.out; have := HM1.out; omega
        have hd1 : decide ((j : Int) < (M1 : Int)) = true := by simp only [decide_eq_true_eq]; omega
        have hjm2 : (j : Int) < (M1 : Int) := by omega
        have hj0 : (0 : Int) ≤ (j : Int) := by omega
        have hki : k + 1 < M1 := by have := HM1.out; omega
        obtain ⟨A', n', c', hse, hde⟩ := HSX.out k hki
        have HSE := Lib.hid hse
        obtain ⟨x, hx⟩ : ∃ x, Pk.sec ⟨a, b, c, d⟩ slot k = x := ⟨_, rfl⟩
        have HC6 : Hid (∀ W, Below w2.heap.size w2 W → W.cell? ⟨gs, j, none⟩ = some (.int .i64 x)) := fun W hW => by
          have h1 := HX2.out k hki
          rw [hx] at h1
          rw [hj.out]
          exact (hW.cell (World.block_lt_of_cell? _ _ h1)).trans h1
        by_cases hg : Fr.good 2 seq (Pk.sec ⟨a, b, c, d⟩ slot k) (sec img (Pk.sec ⟨a, b, c, d⟩ slot k).toNat)
        · have HPL : Hid ((Rc.sub (sec img (Pk.sec ⟨a, b, c, d⟩ slot k).toNat) 1 59).length = 59) := Fr.sub59 _ hg.2.1
          have HPN : Hid ((∀ y ∈ Rc.sub (sec img (Pk.sec ⟨a, b, c, d⟩ slot k).toNat) 1 59, y < 256) → Sc.Part img ⟨a, b, c, d⟩ slot seq N (k + 1) (D ++ Rc.sub (sec img (Pk.sec ⟨a, b, c, d⟩ slot k).toNat) 1 59)) := fun hy => part_more hp.out hlt hg rfl HPL.out hy
          have HDE : Hid (∀ W, Below w2.heap.size w2 W → Calls Tryz.prog 55 #[.int .i64 2, .int .i64 seq, .int .i64 x, .slice A' n' c'] W fun e w' => ∃ A2 c2, e = .returned (.tuple #[.slice A2 59 c2, .bool true]) ∧ Below W.heap.size W w' ∧ SlIs A2 59 c2 ∧ Bs w' w'.heap.size A2 (Rc.sub (sec img (Pk.sec ⟨a, b, c, d⟩ slot k).toNat) 1 59)) := fun W hW => by
            rw [← hx]
            refine (hde W (HB2.out.trans (hW.mono HB2.out.size))).mono fun e w' h => ?_
            rcases h with ⟨-, A2, c2, e1, e2, e3, e4⟩ | ⟨h, -⟩
            · exact ⟨A2, c2, e1, e4, e2, e3.bs⟩
            · exact absurd hg h
          rw [hx] at HSE
          generalize Rc.sub (sec img (Pk.sec ⟨a, b, c, d⟩ slot k).toNat) 1 59 = p at *
          have hN2 : 59 * k ≤ 1000000 := by omega
          have hown2 := Lib.hid hown.out
          have HBa : Hid (Below w2.heap.size w2 wr.drew) := hbel.out.trans ((below_drewN wr 1).mono hbel.out.size)
          have HLW : Hid (Below wr.heap.size wr wr.drew) := below_drewN wr 1
          clear hg hse hde hx hp HSX
          go_wp2_with fail
          refine wp_region_held_drew (S := fun W => W.cell? ⟨gs, j, none⟩ = some (.int .i64 x)) (by kernel_rfl) (HC6.out _ HBa.out) (fun hH => ?_)
          change wpAnyH _ _ _ _ _ 17 #[false, false, false, false, false, false, false, false, false, false, false, false, false, false, false, false, false] _ _
          generalize wr.drew = wa at *
          refine held_take (i := 0) (v := ?_) (d := some 24) rfl rfl (by kernel_rfl) (by kernel_rfl) (by kernel_rfl) (fun _ _ _ h => h) hH ⟨?_, fun w hSw => ?_⟩ ?_
          rotate_left 1
          · rfl
          · (go_simp; all_goals with_reducible rfl)
          simp only [Act.put, List.setIfInBounds_toArray, List.set_cons_zero, List.set_cons_succ]
          refine held_take (i := 1) (v := ?_) (d := some 25) rfl rfl (by kernel_rfl) (by kernel_rfl) (by kernel_rfl) (fun _ _ _ h => h) hH ⟨?_, fun w hSw => ?_⟩ ?_
          rotate_left 1
          · rfl
          · (go_simp; all_goals with_reducible rfl)
          simp only [Act.put, List.setIfInBounds_toArray, List.set_cons_zero, List.set_cons_succ]
          refine held_take (i := 2) (v := ?_) (d := some 26) rfl rfl (by kernel_rfl) (by kernel_rfl) (by kernel_rfl) (fun _ _ _ h => h) hH ⟨?_, fun w hSw => ?_⟩ ?_
          rotate_left 1
          · rfl
          · (go_simp; all_goals with_reducible rfl)
          simp only [Act.put, List.setIfInBounds_toArray, List.set_cons_zero, List.set_cons_succ]
          refine held_take (i := 3) (v := ?_) (d := some 27) rfl rfl (by kernel_rfl) (by kernel_rfl) (by kernel_rfl) (fun _ _ _ h => h) hH ⟨?_, fun w hSw => ?_⟩ ?_
          rotate_left 1
          · rfl
          · have y0 := hSw
            (go_simp; all_goals with_reducible rfl)
          simp only [Act.put, List.setIfInBounds_toArray, List.set_cons_zero, List.set_cons_succ]
          refine held_take (i := 4) (v := ?_) (d := some 28) rfl rfl (by kernel_rfl) (by kernel_rfl) (by kernel_rfl) (fun _ _ _ h => h) hH ⟨?_, fun w hSw => ?_⟩ ?_
          rotate_left 1
          · rfl
          · have y0 := hSw
            (go_simp; all_goals with_reducible rfl)
          simp only [Act.put, List.setIfInBounds_toArray, List.set_cons_zero, List.set_cons_succ]
          refine held_take (i := 5) (v := ?_) (d := some 29) rfl rfl (by kernel_rfl) (by kernel_rfl) (by kernel_rfl) (fun _ _ _ h => h) hH ⟨?_, fun w hSw => ?_⟩ ?_
          rotate_left 1
          · rfl
          · (go_simp; all_goals with_reducible rfl)
          simp only [Act.put, List.setIfInBounds_toArray, List.set_cons_zero, List.set_cons_succ]
          refine held_take (i := 6) (v := ?_) (d := some 30) rfl rfl (by kernel_rfl) (by kernel_rfl) (by kernel_rfl) (fun _ _ _ h => h) hH ⟨?_, fun w hSw => ?_⟩ ?_
          rotate_left 1
          · rfl
          · (go_simp; all_goals with_reducible rfl)
          simp only [Act.put, List.setIfInBounds_toArray, List.set_cons_zero, List.set_cons_succ]
          refine held_take (i := 7) (v := ?_) (d := some 31) rfl rfl (by kernel_rfl) (by kernel_rfl) (by kernel_rfl) (fun _ _ _ h => h) hH ⟨?_, fun w hSw => ?_⟩ ?_
          rotate_left 1
          · rfl
          · (go_simp; all_goals with_reducible rfl)
          simp only [Act.put, List.setIfInBounds_toArray, List.set_cons_zero, List.set_cons_succ]
          refine held_take (i := 8) (v := ?_) (d := some 32) rfl rfl (by kernel_rfl) (by kernel_rfl) (by kernel_rfl) (fun _ _ _ h => h) hH ⟨?_, fun w hSw => ?_⟩ ?_
          rotate_left 1
          · rfl
          · have y0 := hSw
            (go_simp; all_goals with_reducible rfl)
          simp only [Act.put, List.setIfInBounds_toArray, List.set_cons_zero, List.set_cons_succ]
          refine held_take (i := 9) (v := ?_) (d := some 33) rfl rfl (by kernel_rfl) (by kernel_rfl) (by kernel_rfl) (fun _ _ _ h => h) hH ⟨?_, fun w hSw => ?_⟩ ?_
          rotate_left 1
          · rfl
          · have y0 := hSw
            (go_simp; all_goals with_reducible rfl)
          simp only [Act.put, List.setIfInBounds_toArray, List.set_cons_zero, List.set_cons_succ]
          refine held_step (i := 10) rfl (by kernel_rfl) ?_ (fun K hK => ?_)
          · rfl
          clear hH
          go_simp
          refine (HSE.out _).mono ?_
          rintro e w' ⟨rfl, rfl⟩
          have hH := HC6.out _ HBa.out
          refine hK _ _ hH ?_
          clear hK K
          simp only [List.setIfInBounds_toArray, List.set_cons_zero, List.set_cons_succ]
          refine held_step (i := 11) rfl (by kernel_rfl) ?_ (fun K hK => ?_)
          · rfl
          clear hH
          go_simp
          refine (HDE.out _ HBa.out).mono ?_
          rintro e w5 ⟨A2, c2, rfl, hb2, hrest⟩
          have HB5 := Lib.hid (HBa.out.trans (hb2.mono HBa.out.size))
          have HL5 := Lib.hid hb2
          have HG5 := Lib.hid hrest
          clear hb2 hrest
          have hH := HC6.out _ HB5.out
          refine hK _ _ hH ?_
          clear hK K
          simp only [List.setIfInBounds_toArray, List.set_cons_zero, List.set_cons_succ]
          refine held_take (i := 12) (v := ?_) (d := some 23) rfl rfl (by kernel_rfl) (by kernel_rfl) (by kernel_rfl) (fun _ _ _ h => h) hH ⟨?_, fun w hSw => ?_⟩ ?_
          rotate_left 1
          · rfl
          · (go_simp; all_goals with_reducible rfl)
          simp only [Act.put, List.setIfInBounds_toArray, List.set_cons_zero, List.set_cons_succ]
          refine held_take (i := 13) (v := ?_) (d := some 36) rfl rfl (by kernel_rfl) (by kernel_rfl) (by kernel_rfl) (fun _ _ _ h => h) hH ⟨?_, fun w hSw => ?_⟩ ?_
          rotate_left 1
          · rfl
          · (go_simp; all_goals with_reducible rfl)
          simp only [Act.put, List.setIfInBounds_toArray, List.set_cons_zero, List.set_cons_succ]
          refine held_take (i := 14) (v := ?_) (d := some 37) rfl rfl (by kernel_rfl) (by kernel_rfl) (by kernel_rfl) (fun _ _ _ h => h) hH ⟨?_, fun w hSw => ?_⟩ ?_
          rotate_left 1
          · rfl
          · (go_simp; all_goals with_reducible rfl)
          simp only [Act.put, List.setIfInBounds_toArray, List.set_cons_zero, List.set_cons_succ]
          refine held_take (i := 15) (v := ?_) (d := some 12) rfl rfl (by kernel_rfl) (by kernel_rfl) (by kernel_rfl) (fun _ _ _ h => h) hH ⟨?_, fun w hSw => ?_⟩ ?_
          rotate_left 1
          · rfl
          · (go_simp; all_goals with_reducible rfl)
          simp only [Act.put, List.setIfInBounds_toArray, List.set_cons_zero, List.set_cons_succ]
          refine held_take (i := 16) (v := ?_) (d := some 13) rfl rfl (by kernel_rfl) (by kernel_rfl) (by kernel_rfl) (fun _ _ _ h => h) hH ⟨?_, fun w hSw => ?_⟩ ?_
          rotate_left 1
          · rfl
          · (go_simp; all_goals with_reducible rfl)
          simp only [Act.put, List.setIfInBounds_toArray, List.set_cons_zero, List.set_cons_succ]
          refine wpAnyH_done (by kernel_rfl) ?_ _
          have HO5 : Hid (w5.ownsRow w2.heap.size 5 1 (.slice A1 (59 * k) c1) (59 * k) (vals D)) := ownsRow_block hown2.out fun q hq => (HLW.out.trans (HL5.out.mono HLW.out.size)).block q (hown2.out.lt q hq).2
          have HA : Hid ((A2 = none → (59 : Nat) = 0 ∧ c2 = 0) ∧ (vals p).length = 59 * 1 ∧ 59 * k + 59 ≤ maxLen ∧ (59 * k + 59) * 1 ≤ 140737488355328) := ⟨fun e => ⟨(HG5.out.1.1 e).2, (HG5.out.1.1 e).1⟩, by rw [vals_length, HPL.out], by unfold maxLen; omega, by omega⟩
          have HPB := Lib.hid HG5.out.2
          have HPN2 := Lib.hid (HPN.out HPB.out.lt)
          have hj3 : IntKind.i64.wrap ((j : Int) + 1) = ((j + 1 : Nat) : Int) := by rw [IntKind.wrap_i64]; omega
          clear hown hown2 HG5 HPN HC6 HDE HSE
          go_wp2_with (at_builtin; refine append_onto rfl (.tmp 41) (.tmp 42) 27 rfl w2.heap.size 5 i0 (.int .u8 0) 1 1 Tryz.underlying27 I0.out.1 I0.out.2.1 I0.out.2.2.1 I0.out.2.2.2 rfl (by decide) _ (59 * k) (vals D) rfl HO5.out A2 59 c2 (vals p) rfl HA.out.1 HA.out.2.1 (fun ad e => by have h := HPB.out; rw [e] at h; exact h.cells) (vals_one _) HA.out.2.2.1 HA.out.2.2.2 HB5.out.size ?_; intro v6 w6 hown6 hg6; rw [← vals_append] at hown6; have HO6 := Lib.hid hown6; have HB6 : Hid (Below w2.heap.size w2 w6) := HB5.out.grown hg6 HB5.out.size (fun g e => (HO5.out.lt g e).1); clear hown6 hg6)
          have hL6 : slLen v6 = 59 * (k + 1) := by
            obtain ⟨A4, c4, rfl, _⟩ := own_bytes HO6.out HPN2.out.2.2.1
            show 59 * k + 59 = _
            omega
          have HO7 : Hid (w6.ownsRow w2.heap.size 5 1 v6 (59 * (k + 1)) (vals (D ++ p))) := by rw [show 59 * (k + 1) = 59 * k + 59 by omega]; exact HO6.out
          have HJ : Hid (j + 1 = k + 1 + 1) := by show _ = _; rw [hj.out]
          go_roundw
          case rel => exact ⟨k + 1, j + 1, _, by go_num, HJ, hL6, HPN2, HO7, HB6⟩
          case measure =>
            rw [hL6]
            simp only [slLen]
            omega
        · have HE := Lib.hid (part_stop hp.out hlt hg)
          have HDL := Lib.hid hp.out.2.1
          have HDE : Hid (∀ W, Below w2.heap.size w2 W → Calls Tryz.prog 55 #[.int .i64 2, .int .i64 seq, .int .i64 x, .slice A' n' c'] W fun e w' => e = .returned (.tuple #[.slice none 0 0, .bool false]) ∧ Below W.heap.size W w') := fun W hW => by
            rw [← hx]
            refine (hde W (HB2.out.trans (hW.mono HB2.out.size))).mono fun e w' h => ?_
            rcases h with ⟨h, -⟩ | ⟨-, h⟩
            · exact absurd h hg
            · exact h
          rw [hx] at HSE
          have hown2 := Lib.hid hown.out
          have HBa : Hid (Below w2.heap.size w2 wr.drew) := hbel.out.trans ((below_drewN wr 1).mono hbel.out.size)
          have HLW : Hid (Below wr.heap.size wr wr.drew) := below_drewN wr 1
          clear hg hse hde hx hp HSX
          go_wp2_with fail
          refine wp_region_held_drew (S := fun W => W.cell? ⟨gs, j, none⟩ = some (.int .i64 x)) (by kernel_rfl) (HC6.out _ HBa.out) (fun hH => ?_)
          change wpAnyH _ _ _ _ _ 17 #[false, false, false, false, false, false, false, false, false, false, false, false, false, false, false, false, false] _ _
          generalize wr.drew = wa at *
          refine held_take (i := 0) (v := ?_) (d := some 24) rfl rfl (by kernel_rfl) (by kernel_rfl) (by kernel_rfl) (fun _ _ _ h => h) hH ⟨?_, fun w hSw => ?_⟩ ?_
          rotate_left 1
          · rfl
          · (go_simp; all_goals with_reducible rfl)
          simp only [Act.put, List.setIfInBounds_toArray, List.set_cons_zero, List.set_cons_succ]
          refine held_take (i := 1) (v := ?_) (d := some 25) rfl rfl (by kernel_rfl) (by kernel_rfl) (by kernel_rfl) (fun _ _ _ h => h) hH ⟨?_, fun w hSw => ?_⟩ ?_
          rotate_left 1
          · rfl
          · (go_simp; all_goals with_reducible rfl)
          simp only [Act.put, List.setIfInBounds_toArray, List.set_cons_zero, List.set_cons_succ]
          refine held_take (i := 2) (v := ?_) (d := some 26) rfl rfl (by kernel_rfl) (by kernel_rfl) (by kernel_rfl) (fun _ _ _ h => h) hH ⟨?_, fun w hSw => ?_⟩ ?_
          rotate_left 1
          · rfl
          · (go_simp; all_goals with_reducible rfl)
          simp only [Act.put, List.setIfInBounds_toArray, List.set_cons_zero, List.set_cons_succ]
          refine held_take (i := 3) (v := ?_) (d := some 27) rfl rfl (by kernel_rfl) (by kernel_rfl) (by kernel_rfl) (fun _ _ _ h => h) hH ⟨?_, fun w hSw => ?_⟩ ?_
          rotate_left 1
          · rfl
          · have y0 := hSw
            (go_simp; all_goals with_reducible rfl)
          simp only [Act.put, List.setIfInBounds_toArray, List.set_cons_zero, List.set_cons_succ]
          refine held_take (i := 4) (v := ?_) (d := some 28) rfl rfl (by kernel_rfl) (by kernel_rfl) (by kernel_rfl) (fun _ _ _ h => h) hH ⟨?_, fun w hSw => ?_⟩ ?_
          rotate_left 1
          · rfl
          · have y0 := hSw
            (go_simp; all_goals with_reducible rfl)
          simp only [Act.put, List.setIfInBounds_toArray, List.set_cons_zero, List.set_cons_succ]
          refine held_take (i := 5) (v := ?_) (d := some 29) rfl rfl (by kernel_rfl) (by kernel_rfl) (by kernel_rfl) (fun _ _ _ h => h) hH ⟨?_, fun w hSw => ?_⟩ ?_
          rotate_left 1
          · rfl
          · (go_simp; all_goals with_reducible rfl)
          simp only [Act.put, List.setIfInBounds_toArray, List.set_cons_zero, List.set_cons_succ]
          refine held_take (i := 6) (v := ?_) (d := some 30) rfl rfl (by kernel_rfl) (by kernel_rfl) (by kernel_rfl) (fun _ _ _ h => h) hH ⟨?_, fun w hSw => ?_⟩ ?_
          rotate_left 1
          · rfl
          · (go_simp; all_goals with_reducible rfl)
          simp only [Act.put, List.setIfInBounds_toArray, List.set_cons_zero, List.set_cons_succ]
          refine held_take (i := 7) (v := ?_) (d := some 31) rfl rfl (by kernel_rfl) (by kernel_rfl) (by kernel_rfl) (fun _ _ _ h => h) hH ⟨?_, fun w hSw => ?_⟩ ?_
          rotate_left 1
          · rfl
          · (go_simp; all_goals with_reducible rfl)
          simp only [Act.put, List.setIfInBounds_toArray, List.set_cons_zero, List.set_cons_succ]
          refine held_take (i := 8) (v := ?_) (d := some 32) rfl rfl (by kernel_rfl) (by kernel_rfl) (by kernel_rfl) (fun _ _ _ h => h) hH ⟨?_, fun w hSw => ?_⟩ ?_
          rotate_left 1
          · rfl
          · have y0 := hSw
            (go_simp; all_goals with_reducible rfl)
          simp only [Act.put, List.setIfInBounds_toArray, List.set_cons_zero, List.set_cons_succ]
          refine held_take (i := 9) (v := ?_) (d := some 33) rfl rfl (by kernel_rfl) (by kernel_rfl) (by kernel_rfl) (fun _ _ _ h => h) hH ⟨?_, fun w hSw => ?_⟩ ?_
          rotate_left 1
          · rfl
          · have y0 := hSw
            (go_simp; all_goals with_reducible rfl)
          simp only [Act.put, List.setIfInBounds_toArray, List.set_cons_zero, List.set_cons_succ]
          refine held_step (i := 10) rfl (by kernel_rfl) ?_ (fun K hK => ?_)
          · rfl
          clear hH
          go_simp
          refine (HSE.out _).mono ?_
          rintro e w' ⟨rfl, rfl⟩
          have hH := HC6.out _ HBa.out
          refine hK _ _ hH ?_
          clear hK K
          simp only [List.setIfInBounds_toArray, List.set_cons_zero, List.set_cons_succ]
          refine held_step (i := 11) rfl (by kernel_rfl) ?_ (fun K hK => ?_)
          · rfl
          clear hH
          go_simp
          refine (HDE.out _ HBa.out).mono ?_
          rintro e w5 ⟨rfl, hb2⟩
          have HB5 := Lib.hid (HBa.out.trans (hb2.mono HBa.out.size))
          have HL5 := Lib.hid hb2
          clear hb2
          have hH := HC6.out _ HB5.out
          refine hK _ _ hH ?_
          clear hK K
          simp only [List.setIfInBounds_toArray, List.set_cons_zero, List.set_cons_succ]
          refine held_take (i := 12) (v := ?_) (d := some 23) rfl rfl (by kernel_rfl) (by kernel_rfl) (by kernel_rfl) (fun _ _ _ h => h) hH ⟨?_, fun w hSw => ?_⟩ ?_
          rotate_left 1
          · rfl
          · (go_simp; all_goals with_reducible rfl)
          simp only [Act.put, List.setIfInBounds_toArray, List.set_cons_zero, List.set_cons_succ]
          refine held_take (i := 13) (v := ?_) (d := some 36) rfl rfl (by kernel_rfl) (by kernel_rfl) (by kernel_rfl) (fun _ _ _ h => h) hH ⟨?_, fun w hSw => ?_⟩ ?_
          rotate_left 1
          · rfl
          · (go_simp; all_goals with_reducible rfl)
          simp only [Act.put, List.setIfInBounds_toArray, List.set_cons_zero, List.set_cons_succ]
          refine held_take (i := 14) (v := ?_) (d := some 37) rfl rfl (by kernel_rfl) (by kernel_rfl) (by kernel_rfl) (fun _ _ _ h => h) hH ⟨?_, fun w hSw => ?_⟩ ?_
          rotate_left 1
          · rfl
          · (go_simp; all_goals with_reducible rfl)
          simp only [Act.put, List.setIfInBounds_toArray, List.set_cons_zero, List.set_cons_succ]
          refine held_take (i := 15) (v := ?_) (d := some 12) rfl rfl (by kernel_rfl) (by kernel_rfl) (by kernel_rfl) (fun _ _ _ h => h) hH ⟨?_, fun w hSw => ?_⟩ ?_
          rotate_left 1
          · rfl
          · (go_simp; all_goals with_reducible rfl)
          simp only [Act.put, List.setIfInBounds_toArray, List.set_cons_zero, List.set_cons_succ]
          refine held_take (i := 16) (v := ?_) (d := some 13) rfl rfl (by kernel_rfl) (by kernel_rfl) (by kernel_rfl) (fun _ _ _ h => h) hH ⟨?_, fun w hSw => ?_⟩ ?_
          rotate_left 1
          · rfl
          · (go_simp; all_goals with_reducible rfl)
          simp only [Act.put, List.setIfInBounds_toArray, List.set_cons_zero, List.set_cons_succ]
          refine wpAnyH_done (by kernel_rfl) ?_ _
          have HO5 : Hid (w5.ownsRow w2.heap.size 5 1 (.slice A1 (59 * k) c1) (59 * k) (vals D)) := ownsRow_block hown2.out fun q hq => (HLW.out.trans (HL5.out.mono HLW.out.size)).block q (hown2.out.lt q hq).2
          go_wp2_with fail
          go_ret
          refine ⟨_, rfl, ?_, HB2.out.trans (HB5.out.mono HB2.out.size)⟩
          rw [HE.out, HDL.out]
          exact ownsRow_mono HO5.out HB2.out.size
      · obtain rfl : k = N := by omega
        have hd1 : decide ((j : Int) < (M1 : Int)) = false := by have := hj.out; have := HM1.out; simp only [decide_eq_false_iff_not]; omega
        have hd2 : decide (j < M1) = false := by have := hj.out; have := HM1.out; simp only [decide_eq_false_iff_not]; omega
        have HE := Lib.hid (part_whole hp.out)
        have HDL := Lib.hid hp.out.2.1
        clear hp HSX
        go_wp2_with fail
        go_ret
        refine ⟨_, rfl, ?_, HB2.out.trans (hbel.out.mono HB2.out.size)⟩
        rw [HE.out, HDL.out]
        exact ownsRow_mono hown.out HB2.out.size
  · rw [if_neg hh]
    have CS : Hid (∀ W, Calls Tryz.prog 24 #[.agg #[.int .i64 a, .int .i64 b, .int .i64 c, .int .i64 d], .int .i64 slot] W fun r w' => r = .returned (.slice none 0 0) ∧ Below W.heap.size W w') := fun W => refsecs_no a b c d slot W hh
    clear hh hb
    go_enter Tryz.func38, Tryz.ntmps38
    go_upto_region 1 with fail
    generalize w.alloc (.cells #[.int .i64 a, .int .i64 b, .int .i64 c, .int .i64 d] 29) = w0 at *
    obtain ⟨z0, z1, z2, z3⟩ := four_cells HS0.out.1
    go_wp2_with fail
    refine (CS.out _).mono ?_
    rintro r w2 ⟨rfl, hb2⟩
    have HB2 := Lib.hid (HS0.out.2.trans (hb2.mono HS0.out.2.size))
    clear hb2 CS z0 z1 z2 z3
    go_wp2_with fail
    go_loopw [9, 11] (fun dv iv wr => dv = .slice none 0 0 ∧ iv = .int .i64 1 ∧ Hid (Below w.heap.size w wr)) (fun _ _ _ => 0)
    case atStart => exact ⟨rfl, rfl, HB2.out⟩
    case round =>
      obtain ⟨rfl, rfl, HB⟩ := hrel
      go_wp2_with fail
      go_ret
      exact ⟨_, rfl, World.ownsRow_nil _ _ _ _, HB.out⟩
end Go.Proofs.YtgnbmmceffolmaaGreatDoor
