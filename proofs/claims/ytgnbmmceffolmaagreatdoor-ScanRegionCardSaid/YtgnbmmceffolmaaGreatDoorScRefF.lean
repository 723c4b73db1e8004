/-
  The walks of the reference of layer 15: sector, Header, Stream.
-/
import Derived.Test.YtgnbmmceffolmaaGreatDoorFoldQ
import Derived.Test.YtgnbmmceffolmaaGreatDoorFoldP
import Derived.Test.YtgnbmmceffolmaaGreatDoorFoldF
import Derived.Deep.DeepCutAuto
import Derived.Deep.CutBlock
set_option maxRecDepth 100000
namespace Go.Proofs.YtgnbmmceffolmaaGreatDoor
open Go.RowKit
/-- What sector returns: the bytes of a sector, or none where no frame is. -/
def SectIs (w : World) (B : Nat) (img : List Nat) (x : Int) (A' : Option Addr) (n' c' : Nat) (l : List Nat) : Prop := SlIs A' n' c' ∧ l.length = n' ∧ n' ≤ 64 ∧ Bs w B A' l ∧ (l = sec img x.toNat ∨ (l = [] ∧ ∀ k s, ¬ Fr.good k s x (sec img x.toNat)))
theorem bs_drop0 {w : World} {B g : Nat} {l : List Nat} (h : Bs w B (some ⟨g, 0, none⟩) l) (p : Nat) : Bs w B (some ⟨g, p, none⟩) (l.drop p) := by
  have h2 := (h.bsIn.drop p).bs
  rw [Option.map_some, arr_flat, Nat.zero_add] at h2
  exact h2
theorem refsector_any (ga n cp B : Nat) (img : List Nat) (x : Int) (w : World) (hl : img.length = n) (hn : n ≤ 67108864) (hc : n ≤ cp ∧ cp ≤ 9223372036854775807) (hb : Bs w B (some ⟨ga, 0, none⟩) img) (hx : -1000000000 ≤ x ∧ x ≤ 1000000000) :
    ∃ A' n' c' l, SectIs w B img x A' n' c' l ∧ ∀ W, Calls Tryz.prog 26 #[.slice (some ⟨ga, 0, none⟩) n cp, .int .i64 x] W fun e w' => e = .returned (.slice A' n' c') ∧ W = w' := by
  have m1 : wrap64 (x * 64) = x * 64 := by unfold wrap64; omega
  have m2 : wrap64 (x * 64 + 64) = x * 64 + 64 := by unfold wrap64; omega
  rcases Int.lt_or_le x 0 with h0 | h0
  · refine ⟨none, 0, 0, [], ⟨⟨fun _ => ⟨rfl, rfl⟩, Nat.le_refl _, by decide⟩, rfl, by decide, fun k hk => absurd hk (Nat.not_lt_zero _), .inr ⟨rfl, fun k s hg => by have := hg.1.2.2.2.1; omega⟩⟩, fun W => ?_⟩
    have f0 : decide (x < 0) = true := by simp only [decide_eq_true_eq]; omega
    go_enter Tryz.func26, Tryz.ntmps26
    go_wp2_with fail
    go_ret
    exact ⟨rfl, rfl⟩
  · have f0 : decide (x < 0) = false := by simp only [decide_eq_false_iff_not]; omega
    by_cases hin : x * 64 + 64 ≤ (n : Int)
    · obtain ⟨j, rfl⟩ := Int.eq_ofNat_of_zero_le h0
      have hsl : (sec img j).length = 64 := by unfold sec; rw [List.length_take, List.length_drop]; omega
      have hjc : j * 64 + 64 ≤ cp := by omega
      obtain ⟨p, hp⟩ : ∃ p, j * 64 = p := ⟨_, rfl⟩
      have m3 : (j : Int) * 64 = (p : Int) := by omega
      have hbs : Bs w B (some ⟨ga, p, none⟩) (sec img j) := by
        have h2 := (bs_drop0 hb p).take 64
        rw [← hp] at h2 ⊢
        exact h2
      refine ⟨some ⟨ga, p, none⟩, 64, cp - p, sec img j, ⟨⟨(fun e => by cases e), by omega, by omega⟩, hsl, by decide, hbs, .inl (by rw [Int.toNat_natCast])⟩, fun W => ?_⟩
      have m4 : wrap64 (p : Int) = (p : Int) := by unfold wrap64; omega
      have m5 : wrap64 ((p : Int) + 64) = (p : Int) + 64 := by unfold wrap64; omega
      have f1 : decide ((n : Int) < (p : Int) + 64) = false := by simp only [decide_eq_false_iff_not]; omega
      have g1 : (0 : Int) ≤ (p : Int) := by omega
      have g2 : (p : Int) ≤ (p : Int) + 64 := by omega
      have g3 : (p : Int) + 64 ≤ (cp : Int) := by omega
      have g4 : ¬ (cp = p) := by omega
      have e1 : ((p : Int) + 64).toNat - p = 64 := by omega
      clear hbs hsl hb hp m1 m2 hin h0
      go_enter Tryz.func26, Tryz.ntmps26
      go_wp2_with fail
      go_ret
      exact ⟨rfl, rfl⟩
    · refine ⟨none, 0, 0, [], ⟨⟨fun _ => ⟨rfl, rfl⟩, Nat.le_refl _, by decide⟩, rfl, by decide, fun k hk => absurd hk (Nat.not_lt_zero _), .inr ⟨rfl, fun k s => no_frame (by unfold sec; rw [List.length_take, List.length_drop]; omega)⟩⟩, fun W => ?_⟩
      have f1 : decide ((n : Int) < x * 64 + 64) = true := by simp only [decide_eq_true_eq]; omega
      go_enter Tryz.func26, Tryz.ntmps26
      go_wp2_with fail
      go_ret
      exact ⟨rfl, rfl⟩
/-- What the reference's Decode says of a sector's bytes. -/
theorem refhd_at {w : World} {B : Nat} {img : List Nat} {x : Int} {A' : Option Addr} {n' c' : Nat} {l : List Nat} (h : SectIs w B img x A' n' c' l) (hB : B ≤ w.heap.size) :
    ∃ (H : Hd.H) (t : Bool), ((t = true ∧ Hd.good x (sec img x.toNat) ∧ H = Hd.rd (Rc.sub (sec img x.toNat) 1 59)) ∨ (t = false ∧ ¬ Hd.good x (sec img x.toNat) ∧ H = Hd.zero)) ∧ ∀ W, Below w.heap.size w W → Calls Tryz.prog 25 #[.slice A' n' c', .int .i64 x] W fun r w' => r = .returned (.tuple #[.agg #[.int .i64 H.ver, .int .i64 H.slot, .int .i64 H.lay, .int .i64 H.seq, .int .i64 H.tail, .int .i64 H.now], .bool t]) ∧ Below W.heap.size W w' := by
  obtain ⟨hs, hl, hn, hb, hw⟩ := h
  have HD := fun W (hW : Below w.heap.size w W) => refhddec_any x A' B n' c' l W (Nat.le_trans hB hW.size) hs hl (hb.below hW hB) (by omega)
  have hiff : Hd.good x l → l = sec img x.toNat := fun hg => by
    rcases hw with e | ⟨e, -⟩
    · exact e
    · rw [e] at hg; have := hg.1.2.1; cases this
  by_cases hg : Hd.good x (sec img x.toNat)
  · have hgl : l = sec img x.toNat := by
      rcases hw with e | ⟨-, hno⟩
      · exact e
      · exact absurd hg.1 (hno _ _)
    subst hgl
    refine ⟨_, true, .inl ⟨rfl, hg, rfl⟩, fun W hW => (HD W hW).mono fun r w' h => ?_⟩
    rcases h with ⟨-, h⟩ | ⟨h, -⟩
    · exact h
    · exact absurd hg h
  · refine ⟨Hd.zero, false, .inr ⟨rfl, hg, rfl⟩, fun W hW => (HD W hW).mono fun r w' h => ?_⟩
    rcases h with ⟨h, -⟩ | ⟨-, h⟩
    · exact absurd (by rw [← hiff h]; exact h) hg
    · exact h
theorem reffr_at {w : World} {B : Nat} {img : List Nat} {x seq : Int} {A' : Option Addr} {n' c' : Nat} {l : List Nat} (h : SectIs w B img x A' n' c' l) (hB : B ≤ w.heap.size) (hs63 : seq ≤ 9223372036854775807) (W : World) (hW : Below w.heap.size w W) :
    Calls Tryz.prog 55 #[.int .i64 2, .int .i64 seq, .int .i64 x, .slice A' n' c'] W fun e w' => (Fr.good 2 seq x (sec img x.toNat) ∧ GotFr W (Rc.sub (sec img x.toNat) 1 59) e w') ∨ (¬ Fr.good 2 seq x (sec img x.toNat) ∧ NoFr W e w') := by
  obtain ⟨hs, hl, hn, hb, hw⟩ := h
  have HD := reffrdec_any 2 seq x A' B n' c' l W hs63 (Nat.le_trans hB hW.size) hs hl (hb.below hW hB)
  rcases hw with e | ⟨e, hno⟩
  · rw [← e]; exact HD
  · refine HD.mono fun r w' h => ?_
    rcases h with ⟨hg, -⟩ | ⟨-, h⟩
    · rw [e] at hg; have := hg.2.1; cases this
    · exact .inr ⟨hno _ _, h⟩
set_option maxHeartbeats 2000000 in
theorem refscheader_any (a b c d slot : Int) (ga n cp B : Nat) (img : List Nat) (w : World) (hB : B ≤ w.heap.size) (hl : img.length = n) (hn : n ≤ 67108864) (hc : n ≤ cp ∧ cp ≤ 9223372036854775807) (hb : Hid (Bs w B (some ⟨ga, 0, none⟩) img)) :
    Calls Tryz.prog 7 #[.slice (some ⟨ga, 0, none⟩) n cp, .agg #[.int .i64 a, .int .i64 b, .int .i64 c, .int .i64 d], .int .i64 slot] w (HeadIs w (Sc.head img ⟨a, b, c, d⟩ slot)) := by
  have HY : Hid (Hd.good (Gm.first ⟨a, b, c, d⟩ slot) (sec img (Gm.first ⟨a, b, c, d⟩ slot).toNat) → _ → Sc.head img ⟨a, b, c, d⟩ slot = _) := fun h1 h2 => head_some h1 h2
  have HNO : Hid (¬ _ → Sc.head img ⟨a, b, c, d⟩ slot = none) := fun h => head_none h
  have HS0 := Lib.hid (sd2_boxes4 w a b c d)
  unfold HeadIs
  by_cases hh : Gm.has ⟨a, b, c, d⟩ slot
  · have e1 : Gm.first ⟨a, b, c, d⟩ slot = Gm.spot ⟨a, b, c, d⟩ slot := if_pos hh
    rw [e1] at HY HNO
    have hf := Gm.form_nums hh.1
    have hsp := Gm.spot_small hh.1 (s := slot) hh.2.1 (Int.le_of_lt hh.2.2)
    have hx : 74 ≤ Gm.spot ⟨a, b, c, d⟩ slot ∧ Gm.spot ⟨a, b, c, d⟩ slot ≤ 1000000 := by unfold Gm.spot; simp only at hsp ⊢; omega
    simp only at hf
    obtain ⟨N, hN⟩ := Int.eq_ofNat_of_zero_le (show 0 ≤ c by omega)
    have hN1 : 1 ≤ N := by omega
    have CS : Hid (∀ W, Calls Tryz.prog 24 #[.agg #[.int .i64 a, .int .i64 b, .int .i64 c, .int .i64 d], .int .i64 slot] W (SecsHas W (Gm.secs ⟨a, b, c, d⟩ slot N) N)) := fun W => refsecs_has a b c d slot N hN W hh
    obtain ⟨A', n', c', l, hsec, hcall⟩ := refsector_any ga n cp B img (Gm.spot ⟨a, b, c, d⟩ slot) w hl hn hc hb.out (by omega)
    obtain ⟨H, t, hway, hdec⟩ := refhd_at hsec hB
    have HAT : Hid (∀ (W : World) (g : Nat) (lo Bx : Nat), Arr intS W lo Bx (some ⟨g, 0, none⟩) (Gm.secs ⟨a, b, c, d⟩ slot N) → W.cell? ⟨g, 0, none⟩ = some (.int .i64 (Gm.spot ⟨a, b, c, d⟩ slot))) := fun W g lo Bx h => by
      have h1 := ints_at h 0 (by rw [Gm.secs_length]; omega)
      rw [Gm.secs_at _ _ _ _ (by omega), show Gm.spot ⟨a, b, c, d⟩ slot + ((0 : Nat) : Int) = Gm.spot ⟨a, b, c, d⟩ slot by omega] at h1
      exact h1
    have HWAY : Hid (((H.ver != b) = false ∧ (H.lay != a) = false ∧ (H.slot != slot) = false ∧ t = true ∧ Sc.head img ⟨a, b, c, d⟩ slot = some H) ∨ (t = false ∧ Sc.head img ⟨a, b, c, d⟩ slot = none) ∨ ((H.ver != b) = true ∧ t = true ∧ Sc.head img ⟨a, b, c, d⟩ slot = none) ∨ ((H.ver != b) = false ∧ (H.lay != a) = true ∧ t = true ∧ Sc.head img ⟨a, b, c, d⟩ slot = none) ∨ ((H.ver != b) = false ∧ (H.lay != a) = false ∧ (H.slot != slot) = true ∧ t = true ∧ Sc.head img ⟨a, b, c, d⟩ slot = none)) := by
      rcases hway with ⟨rfl, hg, rfl⟩ | ⟨rfl, hg, -⟩
      · rcases head_ways (o := Sc.head img ⟨a, b, c, d⟩ slot) (fun e => HY.out hg e) (fun e => HNO.out fun k => e k.2) with ⟨g0, g1, g2, h⟩ | ⟨g0, h⟩ | ⟨g0, g1, h⟩ | ⟨g0, g1, g2, h⟩
        · exact .inl ⟨g0, g1, g2, rfl, h⟩
        · exact .inr (.inr (.inl ⟨g0, rfl, h⟩))
        · exact .inr (.inr (.inr (.inl ⟨g0, g1, rfl, h⟩)))
        · exact .inr (.inr (.inr (.inr ⟨g0, g1, g2, rfl, h⟩)))
      · exact .inr (.inl ⟨rfl, HNO.out fun k => hg k.1⟩)
    have HSC := Lib.hid hcall
    have HDC := Lib.hid hdec
    have hne : ((N : Int) == 0) = false := by rw [beq_eq_false_iff_ne]; omega
    clear hway hdec hcall hsec hb HY HNO hsp hf hN e1
    generalize Sc.head img ⟨a, b, c, d⟩ slot = o at *
    generalize Gm.spot ⟨a, b, c, d⟩ slot = x at *
    obtain ⟨h0, h1, h2, h3, h4, h5⟩ := H
    unfold GotHd NoHd
    unfold SecsHas at CS
    simp only at HWAY HDC
    go_enter Tryz.func7, Tryz.ntmps7
    go_upto_region 1 with fail
    generalize (w.alloc (.cells #[.int .i64 a, .int .i64 b, .int .i64 c, .int .i64 d] 29)).alloc (.cells #[.int .i64 0, .int .i64 0, .int .i64 0, .int .i64 0, .int .i64 0, .int .i64 0] 35) = w0 at *
    obtain ⟨z0, z1, z2, z3⟩ := four_cells HS0.out.1
    go_wp2_with fail
    refine (CS.out _).mono ?_
    rintro r w2 ⟨gs, cs, rfl, -, harr, hb2⟩
    have HS2 := Lib.hid (HS0.out.next hb2 (by rfl) (by rfl) (by rfl) (by rfl))
    have HX2 := Lib.hid (HAT.out w2 gs _ _ harr)
    have hN0 : (0 : Int) < (N : Int) := by omega
    have hN2 : 0 < N := by omega
    clear hb2 harr CS HS0 z0 z1 z2 z3 HAT
    have HC4 : Hid (∀ W, Below w2.heap.size w2 W → W.cell? ⟨gs, 0, none⟩ = some (.int .i64 x)) := fun W hW => (hW.cell (World.block_lt_of_cell? _ _ HX2.out)).trans HX2.out
    have HSE : Hid (∀ W, Below w2.heap.size w2 W → Calls Tryz.prog 26 #[.slice (some ⟨ga, 0, none⟩) n cp, .int .i64 x] W fun e w' => e = .returned (.slice A' n' c') ∧ W = w') := fun W _ => HSC.out W
    have HDE : Hid (∀ W, Below w2.heap.size w2 W → Calls Tryz.prog 25 #[.slice A' n' c', .int .i64 x] W fun r w' => r = .returned (.tuple #[.agg #[.int .i64 h0, .int .i64 h1, .int .i64 h2, .int .i64 h3, .int .i64 h4, .int .i64 h5], .bool t]) ∧ Below W.heap.size W w') := fun W hW => HDC.out W (HS2.out.2.2.trans (hW.mono HS2.out.2.2.size))
    have HN0 := Lib.hid hN0
    clear HSC HDC
    go_upto_region 4 with fail
    go_cut [9, 10] (fun s9 s10 wx => ∃ q, s9 = .pointer (some ⟨q, 0, none⟩) ∧ s10 = .bool t ∧ Hid (wx.heap[q]? = some (.cells #[.int .i64 h0, .int .i64 h1, .int .i64 h2, .int .i64 h3, .int .i64 h4, .int .i64 h5] 35 (0, 0))) ∧ Hid (Below w2.heap.size w2 wx))
    case first =>
      go_wp2_with fail
      have HBa : Hid (Below w2.heap.size w2 w2.drew) := below_drewN w2 1
      refine wp_region_held_drew (S := fun W => W.cell? ⟨gs, 0, none⟩ = some (.int .i64 x)) (by kernel_rfl) (HC4.out _ HBa.out) (fun hH => ?_)
      change wpAnyH _ _ _ _ _ 15 #[false, false, false, false, false, false, false, false, false, false, false, false, false, false, false] _ _
      clear hH
      generalize w2.drew = wa at *
      refine held_take (i := 0) (v := ?_) (d := some 19) rfl rfl (by kernel_rfl) (by kernel_rfl) (by kernel_rfl) (fun _ _ _ h => h) (HC4.out _ HBa.out) ⟨?_, fun w hSw => ?_⟩ ?_
      rotate_left 1
      · rfl
      · (go_simp; all_goals with_reducible rfl)
      simp only [Act.put, List.setIfInBounds_toArray, List.set_cons_zero, List.set_cons_succ]
      refine held_take (i := 1) (v := ?_) (d := some 20) rfl rfl (by kernel_rfl) (by kernel_rfl) (by kernel_rfl) (fun _ _ _ h => h) (HC4.out _ HBa.out) ⟨?_, fun w hSw => ?_⟩ ?_
      rotate_left 1
      · rfl
      · (go_simp; all_goals with_reducible rfl)
      simp only [Act.put, List.setIfInBounds_toArray, List.set_cons_zero, List.set_cons_succ]
      refine held_take (i := 2) (v := ?_) (d := some 21) rfl rfl (by kernel_rfl) (by kernel_rfl) (by kernel_rfl) (fun _ _ _ h => h) (HC4.out _ HBa.out) ⟨?_, fun w hSw => ?_⟩ ?_
      rotate_left 1
      · rfl
      · have y0 := hSw
        (go_simp; all_goals with_reducible rfl)
      simp only [Act.put, List.setIfInBounds_toArray, List.set_cons_zero, List.set_cons_succ]
      refine held_take (i := 3) (v := ?_) (d := some 22) rfl rfl (by kernel_rfl) (by kernel_rfl) (by kernel_rfl) (fun _ _ _ h => h) (HC4.out _ HBa.out) ⟨?_, fun w hSw => ?_⟩ ?_
      rotate_left 1
      · rfl
      · have y0 := hSw
        (go_simp; all_goals with_reducible rfl)
      simp only [Act.put, List.setIfInBounds_toArray, List.set_cons_zero, List.set_cons_succ]
      refine held_take (i := 5) (v := ?_) (d := some 24) rfl rfl (by kernel_rfl) (by kernel_rfl) (by kernel_rfl) (fun _ _ _ h => h) (HC4.out _ HBa.out) ⟨?_, fun w hSw => ?_⟩ ?_
      rotate_left 1
      · rfl
      · (go_simp; all_goals with_reducible rfl)
      simp only [Act.put, List.setIfInBounds_toArray, List.set_cons_zero, List.set_cons_succ]
      refine held_take (i := 6) (v := ?_) (d := some 25) rfl rfl (by kernel_rfl) (by kernel_rfl) (by kernel_rfl) (fun _ _ _ h => h) (HC4.out _ HBa.out) ⟨?_, fun w hSw => ?_⟩ ?_
      rotate_left 1
      · rfl
      · have y0 := hSw
        (go_simp; all_goals with_reducible rfl)
      simp only [Act.put, List.setIfInBounds_toArray, List.set_cons_zero, List.set_cons_succ]
      refine held_take (i := 7) (v := ?_) (d := some 26) rfl rfl (by kernel_rfl) (by kernel_rfl) (by kernel_rfl) (fun _ _ _ h => h) (HC4.out _ HBa.out) ⟨?_, fun w hSw => ?_⟩ ?_
      rotate_left 1
      · rfl
      · have y0 := hSw
        (go_simp; all_goals with_reducible rfl)
      simp only [Act.put, List.setIfInBounds_toArray, List.set_cons_zero, List.set_cons_succ]
      refine hold_two (i := 4) (j := 12) rfl rfl (by kernel_rfl) (by rfl) (by rfl) (fun K hK => ?_) (fun K hK => ?_)
      · go_simp
        refine (HSE.out _ HBa.out).mono ?_
        rintro e w' ⟨rfl, rfl⟩
        refine hK _ _ (HC4.out _ HBa.out) ?_
        clear hK K
        simp only [List.setIfInBounds_toArray, List.set_cons_zero, List.set_cons_succ]
        refine hold_two (i := 8) (j := 12) rfl rfl (by kernel_rfl) (by rfl) (by rfl) (fun K hK => ?_) (fun K hK => ?_)
        · go_simp
          refine (HDE.out _ HBa.out).mono ?_
          rintro e w2x ⟨rfl, hb2⟩
          have HB2 := Lib.hid (HBa.out.trans (hb2.mono HBa.out.size))
          clear hb2
          refine hK _ _ (HC4.out _ HB2.out) ?_
          clear hK K
          simp only [List.setIfInBounds_toArray, List.set_cons_zero, List.set_cons_succ]
          refine held_take (i := 9) (v := ?_) (d := some 18) rfl rfl (by kernel_rfl) (by kernel_rfl) (by kernel_rfl) (fun _ _ _ h => h) (HC4.out _ HB2.out) ⟨?_, fun w hSw => ?_⟩ ?_
          rotate_left 1
          · rfl
          · (go_simp; all_goals with_reducible rfl)
          simp only [Act.put, List.setIfInBounds_toArray, List.set_cons_zero, List.set_cons_succ]
          refine held_take (i := 10) (v := ?_) (d := some 28) rfl rfl (by kernel_rfl) (by kernel_rfl) (by kernel_rfl) (fun _ _ _ h => h) (HC4.out _ HB2.out) ⟨?_, fun w hSw => ?_⟩ ?_
          rotate_left 1
          · rfl
          · (go_simp; all_goals with_reducible rfl)
          simp only [Act.put, List.setIfInBounds_toArray, List.set_cons_zero, List.set_cons_succ]
          refine held_take (i := 11) (v := ?_) (d := some 29) rfl rfl (by kernel_rfl) (by kernel_rfl) (by kernel_rfl) (fun _ _ _ h => h) (HC4.out _ HB2.out) ⟨?_, fun w hSw => ?_⟩ ?_
          rotate_left 1
          · rfl
          · (go_simp; all_goals with_reducible rfl)
          simp only [Act.put, List.setIfInBounds_toArray, List.set_cons_zero, List.set_cons_succ]
          refine held_step (i := 12) rfl (by kernel_rfl) ?_ (fun K hK => ?_)
          · rfl
          go_simp
          have HL3 : Hid (Below w2x.heap.size w2x (w2x.alloc (.cells #[.int .i64 0, .int .i64 0, .int .i64 0, .int .i64 0, .int .i64 0, .int .i64 0] 35))) := (Below.refl _ _).alloc (Nat.le_refl _) _
          have HB3 := Lib.hid (HB2.out.trans (HL3.out.mono HB2.out.size))
          have HX3 := Lib.hid (heap_alloc_new w2x (.cells #[.int .i64 0, .int .i64 0, .int .i64 0, .int .i64 0, .int .i64 0, .int .i64 0] 35))
          have HQ3 : Hid (w2.heap.size ≤ w2x.heap.size) := HB2.out.size
          generalize w2x.alloc (.cells #[.int .i64 0, .int .i64 0, .int .i64 0, .int .i64 0, .int .i64 0, .int .i64 0] 35) = w3x at *
          generalize w2x.heap.size = q3 at *
          refine hK _ _ (HC4.out _ HB3.out) ?_
          clear hK K
          simp only [List.setIfInBounds_toArray, List.set_cons_zero, List.set_cons_succ]
          refine held_step (i := 13) rfl (by kernel_rfl) ?_ (fun K hK => ?_)
          · rfl
          obtain ⟨z0, z1, z2, z3, z4, z5⟩ := six_cells HX3.out
          obtain ⟨g0, g1, g2, g3, g4, g5⟩ := six_frozen HX3.out
          go_simp
          have HG4 : Hid (w3x.grownBy ((((((w3x.setCell ⟨q3, 0, none⟩ (.int .i64 h0)).setCell ⟨q3, 1, none⟩ (.int .i64 h1)).setCell ⟨q3, 2, none⟩ (.int .i64 h2)).setCell ⟨q3, 3, none⟩ (.int .i64 h3)).setCell ⟨q3, 4, none⟩ (.int .i64 h4)).setCell ⟨q3, 5, none⟩ (.int .i64 h5)) (some q3)) := stored6_grown w3x q3 _ _ _ _ _ _
          have HX4 : Hid (((((((w3x.setCell ⟨q3, 0, none⟩ (.int .i64 h0)).setCell ⟨q3, 1, none⟩ (.int .i64 h1)).setCell ⟨q3, 2, none⟩ (.int .i64 h2)).setCell ⟨q3, 3, none⟩ (.int .i64 h3)).setCell ⟨q3, 4, none⟩ (.int .i64 h4)).setCell ⟨q3, 5, none⟩ (.int .i64 h5)).heap[q3]? = some (.cells #[.int .i64 h0, .int .i64 h1, .int .i64 h2, .int .i64 h3, .int .i64 h4, .int .i64 h5] 35 (0, 0))) := stored6 HX3.out
          have HB4 : Hid (Below w2.heap.size w2 ((((((w3x.setCell ⟨q3, 0, none⟩ (.int .i64 h0)).setCell ⟨q3, 1, none⟩ (.int .i64 h1)).setCell ⟨q3, 2, none⟩ (.int .i64 h2)).setCell ⟨q3, 3, none⟩ (.int .i64 h3)).setCell ⟨q3, 4, none⟩ (.int .i64 h4)).setCell ⟨q3, 5, none⟩ (.int .i64 h5))) := HB3.out.trans (below_of_grown HG4.out HQ3.out HB3.out.size)
          clear HG4 z0 z1 z2 z3 z4 z5 g0 g1 g2 g3 g4 g5
          generalize ((((((w3x.setCell ⟨q3, 0, none⟩ (.int .i64 h0)).setCell ⟨q3, 1, none⟩ (.int .i64 h1)).setCell ⟨q3, 2, none⟩ (.int .i64 h2)).setCell ⟨q3, 3, none⟩ (.int .i64 h3)).setCell ⟨q3, 4, none⟩ (.int .i64 h4)).setCell ⟨q3, 5, none⟩ (.int .i64 h5)) = w4x at *
          refine hK _ _ (HC4.out _ HB4.out) ?_
          clear hK K
          simp only [List.setIfInBounds_toArray, List.set_cons_zero, List.set_cons_succ]
          refine held_take (i := 14) (v := ?_) (d := some 10) rfl rfl (by kernel_rfl) (by kernel_rfl) (by kernel_rfl) (fun _ _ _ h => h) (HC4.out _ HB4.out) ⟨?_, fun w hSw => ?_⟩ ?_
          rotate_left 1
          · rfl
          · (go_simp; all_goals with_reducible rfl)
          simp only [Act.put, List.setIfInBounds_toArray, List.set_cons_zero, List.set_cons_succ]
          refine wpAnyH_done (by kernel_rfl) ?_ _
          (try go_wp2_with fail)
          go_meet
          exact ⟨_, rfl, rfl, HX4.out, HB4.out⟩
        · go_simp
          have HL5 : Hid (Below wa.heap.size wa (wa.alloc (.cells #[.int .i64 0, .int .i64 0, .int .i64 0, .int .i64 0, .int .i64 0, .int .i64 0] 35))) := (Below.refl _ _).alloc (Nat.le_refl _) _
          have HB5 := Lib.hid (HBa.out.trans (HL5.out.mono HBa.out.size))
          have HX5 := Lib.hid (heap_alloc_new wa (.cells #[.int .i64 0, .int .i64 0, .int .i64 0, .int .i64 0, .int .i64 0, .int .i64 0] 35))
          have HQ5 : Hid (w2.heap.size ≤ wa.heap.size) := HBa.out.size
          generalize wa.alloc (.cells #[.int .i64 0, .int .i64 0, .int .i64 0, .int .i64 0, .int .i64 0, .int .i64 0] 35) = w5x at *
          generalize wa.heap.size = q5 at *
          refine hK _ _ (HC4.out _ HB5.out) ?_
          clear hK K
          simp only [List.setIfInBounds_toArray, List.set_cons_zero, List.set_cons_succ]
          refine held_step (i := 8) rfl (by kernel_rfl) ?_ (fun K hK => ?_)
          · rfl
          go_simp
          refine (HDE.out _ HB5.out).mono ?_
          rintro e w6x ⟨rfl, hb6⟩
          have HB6 := Lib.hid (HB5.out.trans (hb6.mono HB5.out.size))
          have HX6 := Lib.hid ((hb6.block _ (Array.getElem?_eq_some_iff.1 HX5.out).1).trans HX5.out)
          clear hb6
          refine hK _ _ (HC4.out _ HB6.out) ?_
          clear hK K
          simp only [List.setIfInBounds_toArray, List.set_cons_zero, List.set_cons_succ]
          refine held_take (i := 9) (v := ?_) (d := some 18) rfl rfl (by kernel_rfl) (by kernel_rfl) (by kernel_rfl) (fun _ _ _ h => h) (HC4.out _ HB6.out) ⟨?_, fun w hSw => ?_⟩ ?_
          rotate_left 1
          · rfl
          · (go_simp; all_goals with_reducible rfl)
          simp only [Act.put, List.setIfInBounds_toArray, List.set_cons_zero, List.set_cons_succ]
          refine held_take (i := 10) (v := ?_) (d := some 28) rfl rfl (by kernel_rfl) (by kernel_rfl) (by kernel_rfl) (fun _ _ _ h => h) (HC4.out _ HB6.out) ⟨?_, fun w hSw => ?_⟩ ?_
          rotate_left 1
          · rfl
          · (go_simp; all_goals with_reducible rfl)
          simp only [Act.put, List.setIfInBounds_toArray, List.set_cons_zero, List.set_cons_succ]
          refine held_take (i := 11) (v := ?_) (d := some 29) rfl rfl (by kernel_rfl) (by kernel_rfl) (by kernel_rfl) (fun _ _ _ h => h) (HC4.out _ HB6.out) ⟨?_, fun w hSw => ?_⟩ ?_
          rotate_left 1
          · rfl
          · (go_simp; all_goals with_reducible rfl)
          simp only [Act.put, List.setIfInBounds_toArray, List.set_cons_zero, List.set_cons_succ]
          refine held_step (i := 13) rfl (by kernel_rfl) ?_ (fun K hK => ?_)
          · rfl
          obtain ⟨z0, z1, z2, z3, z4, z5⟩ := six_cells HX6.out
          obtain ⟨g0, g1, g2, g3, g4, g5⟩ := six_frozen HX6.out
          go_simp
          have HG7 : Hid (w6x.grownBy ((((((w6x.setCell ⟨q5, 0, none⟩ (.int .i64 h0)).setCell ⟨q5, 1, none⟩ (.int .i64 h1)).setCell ⟨q5, 2, none⟩ (.int .i64 h2)).setCell ⟨q5, 3, none⟩ (.int .i64 h3)).setCell ⟨q5, 4, none⟩ (.int .i64 h4)).setCell ⟨q5, 5, none⟩ (.int .i64 h5)) (some q5)) := stored6_grown w6x q5 _ _ _ _ _ _
          have HX7 : Hid (((((((w6x.setCell ⟨q5, 0, none⟩ (.int .i64 h0)).setCell ⟨q5, 1, none⟩ (.int .i64 h1)).setCell ⟨q5, 2, none⟩ (.int .i64 h2)).setCell ⟨q5, 3, none⟩ (.int .i64 h3)).setCell ⟨q5, 4, none⟩ (.int .i64 h4)).setCell ⟨q5, 5, none⟩ (.int .i64 h5)).heap[q5]? = some (.cells #[.int .i64 h0, .int .i64 h1, .int .i64 h2, .int .i64 h3, .int .i64 h4, .int .i64 h5] 35 (0, 0))) := stored6 HX6.out
          have HB7 : Hid (Below w2.heap.size w2 ((((((w6x.setCell ⟨q5, 0, none⟩ (.int .i64 h0)).setCell ⟨q5, 1, none⟩ (.int .i64 h1)).setCell ⟨q5, 2, none⟩ (.int .i64 h2)).setCell ⟨q5, 3, none⟩ (.int .i64 h3)).setCell ⟨q5, 4, none⟩ (.int .i64 h4)).setCell ⟨q5, 5, none⟩ (.int .i64 h5))) := HB6.out.trans (below_of_grown HG7.out HQ5.out HB6.out.size)
          clear HG7 z0 z1 z2 z3 z4 z5 g0 g1 g2 g3 g4 g5
          generalize ((((((w6x.setCell ⟨q5, 0, none⟩ (.int .i64 h0)).setCell ⟨q5, 1, none⟩ (.int .i64 h1)).setCell ⟨q5, 2, none⟩ (.int .i64 h2)).setCell ⟨q5, 3, none⟩ (.int .i64 h3)).setCell ⟨q5, 4, none⟩ (.int .i64 h4)).setCell ⟨q5, 5, none⟩ (.int .i64 h5)) = w7x at *
          refine hK _ _ (HC4.out _ HB7.out) ?_
          clear hK K
          simp only [List.setIfInBounds_toArray, List.set_cons_zero, List.set_cons_succ]
          refine held_take (i := 14) (v := ?_) (d := some 10) rfl rfl (by kernel_rfl) (by kernel_rfl) (by kernel_rfl) (fun _ _ _ h => h) (HC4.out _ HB7.out) ⟨?_, fun w hSw => ?_⟩ ?_
          rotate_left 1
          · rfl
          · (go_simp; all_goals with_reducible rfl)
          simp only [Act.put, List.setIfInBounds_toArray, List.set_cons_zero, List.set_cons_succ]
          refine wpAnyH_done (by kernel_rfl) ?_ _
          (try go_wp2_with fail)
          go_meet
          exact ⟨_, rfl, rfl, HX7.out, HB7.out⟩
      · go_simp
        have HL8 : Hid (Below wa.heap.size wa (wa.alloc (.cells #[.int .i64 0, .int .i64 0, .int .i64 0, .int .i64 0, .int .i64 0, .int .i64 0] 35))) := (Below.refl _ _).alloc (Nat.le_refl _) _
        have HB8 := Lib.hid (HBa.out.trans (HL8.out.mono HBa.out.size))
        have HX8 := Lib.hid (heap_alloc_new wa (.cells #[.int .i64 0, .int .i64 0, .int .i64 0, .int .i64 0, .int .i64 0, .int .i64 0] 35))
        have HQ8 : Hid (w2.heap.size ≤ wa.heap.size) := HBa.out.size
        generalize wa.alloc (.cells #[.int .i64 0, .int .i64 0, .int .i64 0, .int .i64 0, .int .i64 0, .int .i64 0] 35) = w8x at *
        generalize wa.heap.size = q8 at *
        refine hK _ _ (HC4.out _ HB8.out) ?_
        clear hK K
        simp only [List.setIfInBounds_toArray, List.set_cons_zero, List.set_cons_succ]
        refine held_step (i := 4) rfl (by kernel_rfl) ?_ (fun K hK => ?_)
        · rfl
        go_simp
        refine (HSE.out _ HB8.out).mono ?_
        rintro e w' ⟨rfl, rfl⟩
        refine hK _ _ (HC4.out _ HB8.out) ?_
        clear hK K
        simp only [List.setIfInBounds_toArray, List.set_cons_zero, List.set_cons_succ]
        refine held_step (i := 8) rfl (by kernel_rfl) ?_ (fun K hK => ?_)
        · rfl
        go_simp
        refine (HDE.out _ HB8.out).mono ?_
        rintro e w10x ⟨rfl, hb10⟩
        have HB10 := Lib.hid (HB8.out.trans (hb10.mono HB8.out.size))
        have HX10 := Lib.hid ((hb10.block _ (Array.getElem?_eq_some_iff.1 HX8.out).1).trans HX8.out)
        clear hb10
        refine hK _ _ (HC4.out _ HB10.out) ?_
        clear hK K
        simp only [List.setIfInBounds_toArray, List.set_cons_zero, List.set_cons_succ]
        refine held_take (i := 9) (v := ?_) (d := some 18) rfl rfl (by kernel_rfl) (by kernel_rfl) (by kernel_rfl) (fun _ _ _ h => h) (HC4.out _ HB10.out) ⟨?_, fun w hSw => ?_⟩ ?_
        rotate_left 1
        · rfl
        · (go_simp; all_goals with_reducible rfl)
        simp only [Act.put, List.setIfInBounds_toArray, List.set_cons_zero, List.set_cons_succ]
        refine held_take (i := 10) (v := ?_) (d := some 28) rfl rfl (by kernel_rfl) (by kernel_rfl) (by kernel_rfl) (fun _ _ _ h => h) (HC4.out _ HB10.out) ⟨?_, fun w hSw => ?_⟩ ?_
        rotate_left 1
        · rfl
        · (go_simp; all_goals with_reducible rfl)
        simp only [Act.put, List.setIfInBounds_toArray, List.set_cons_zero, List.set_cons_succ]
        refine held_take (i := 11) (v := ?_) (d := some 29) rfl rfl (by kernel_rfl) (by kernel_rfl) (by kernel_rfl) (fun _ _ _ h => h) (HC4.out _ HB10.out) ⟨?_, fun w hSw => ?_⟩ ?_
        rotate_left 1
        · rfl
        · (go_simp; all_goals with_reducible rfl)
        simp only [Act.put, List.setIfInBounds_toArray, List.set_cons_zero, List.set_cons_succ]
        refine held_step (i := 13) rfl (by kernel_rfl) ?_ (fun K hK => ?_)
        · rfl
        obtain ⟨z0, z1, z2, z3, z4, z5⟩ := six_cells HX10.out
        obtain ⟨g0, g1, g2, g3, g4, g5⟩ := six_frozen HX10.out
        go_simp
        have HG11 : Hid (w10x.grownBy ((((((w10x.setCell ⟨q8, 0, none⟩ (.int .i64 h0)).setCell ⟨q8, 1, none⟩ (.int .i64 h1)).setCell ⟨q8, 2, none⟩ (.int .i64 h2)).setCell ⟨q8, 3, none⟩ (.int .i64 h3)).setCell ⟨q8, 4, none⟩ (.int .i64 h4)).setCell ⟨q8, 5, none⟩ (.int .i64 h5)) (some q8)) := stored6_grown w10x q8 _ _ _ _ _ _
        have HX11 : Hid (((((((w10x.setCell ⟨q8, 0, none⟩ (.int .i64 h0)).setCell ⟨q8, 1, none⟩ (.int .i64 h1)).setCell ⟨q8, 2, none⟩ (.int .i64 h2)).setCell ⟨q8, 3, none⟩ (.int .i64 h3)).setCell ⟨q8, 4, none⟩ (.int .i64 h4)).setCell ⟨q8, 5, none⟩ (.int .i64 h5)).heap[q8]? = some (.cells #[.int .i64 h0, .int .i64 h1, .int .i64 h2, .int .i64 h3, .int .i64 h4, .int .i64 h5] 35 (0, 0))) := stored6 HX10.out
        have HB11 : Hid (Below w2.heap.size w2 ((((((w10x.setCell ⟨q8, 0, none⟩ (.int .i64 h0)).setCell ⟨q8, 1, none⟩ (.int .i64 h1)).setCell ⟨q8, 2, none⟩ (.int .i64 h2)).setCell ⟨q8, 3, none⟩ (.int .i64 h3)).setCell ⟨q8, 4, none⟩ (.int .i64 h4)).setCell ⟨q8, 5, none⟩ (.int .i64 h5))) := HB10.out.trans (below_of_grown HG11.out HQ8.out HB10.out.size)
        clear HG11 z0 z1 z2 z3 z4 z5 g0 g1 g2 g3 g4 g5
        generalize ((((((w10x.setCell ⟨q8, 0, none⟩ (.int .i64 h0)).setCell ⟨q8, 1, none⟩ (.int .i64 h1)).setCell ⟨q8, 2, none⟩ (.int .i64 h2)).setCell ⟨q8, 3, none⟩ (.int .i64 h3)).setCell ⟨q8, 4, none⟩ (.int .i64 h4)).setCell ⟨q8, 5, none⟩ (.int .i64 h5)) = w11x at *
        refine hK _ _ (HC4.out _ HB11.out) ?_
        clear hK K
        simp only [List.setIfInBounds_toArray, List.set_cons_zero, List.set_cons_succ]
        refine held_take (i := 14) (v := ?_) (d := some 10) rfl rfl (by kernel_rfl) (by kernel_rfl) (by kernel_rfl) (fun _ _ _ h => h) (HC4.out _ HB11.out) ⟨?_, fun w hSw => ?_⟩ ?_
        rotate_left 1
        · rfl
        · (go_simp; all_goals with_reducible rfl)
        simp only [Act.put, List.setIfInBounds_toArray, List.set_cons_zero, List.set_cons_succ]
        refine wpAnyH_done (by kernel_rfl) ?_ _
        (try go_wp2_with fail)
        go_meet
        exact ⟨_, rfl, rfl, HX11.out, HB11.out⟩
    case rest =>
      obtain ⟨q, rfl, rfl, HQ, HB⟩ := hcut
      generalize wc = w5 at *
      have HS5 : Hid (Sd2 w _ _ w5) := ⟨(HB.out.block _ (Array.getElem?_eq_some_iff.1 HS2.out.1).1).trans HS2.out.1, (HB.out.block _ (Array.getElem?_eq_some_iff.1 HS2.out.2.1).1).trans HS2.out.2.1, HS2.out.2.2.trans (HB.out.mono HS2.out.2.2.size)⟩
      rcases HWAY.out with ⟨g0, g1, g2, rfl, HO⟩ | ⟨rfl, HO⟩ | ⟨g0, rfl, HO⟩ | ⟨g0, g1, rfl, HO⟩ | ⟨g0, g1, g2, rfl, HO⟩
      all_goals
        clear HWAY HDE HSE HC4
        have HOO := Lib.hid HO
        clear HO
        obtain ⟨y0, y1, y2, y3, y4, y5⟩ := six_cells HS5.out.2.1
        obtain ⟨f0, f1, f2, f3, f4, f5⟩ := six_frozen HS5.out.2.1
        obtain ⟨x0, x1, x2, x3⟩ := four_cells HS5.out.1
        obtain ⟨z0, z1, z2, z3, z4, z5⟩ := six_cells HQ.out
        go_wp2_with fail
        (try simp only [Exit.inBlock, Exit.then])
        refine bodyPost_ret (results_row2 rfl _ _ (w.heap.size + 1) _ _ (0, 0) _ rfl (stored6 HS5.out.2.1) Tryz.underlying35 rfl (by kernel_rfl)) rfl ?_
        first
          | exact .inl ⟨_, HOO.out, rfl, sd2_res6 HS5.out⟩
          | exact .inr ⟨HOO.out, rfl, sd2_res6 HS5.out⟩
  · have e1 : Gm.first ⟨a, b, c, d⟩ slot = -1 := if_neg hh
    have HOO : Hid (Sc.head img ⟨a, b, c, d⟩ slot = none) := HNO.out fun k => by
      have h1 := k.1.1.1.2.2.2.1
      rw [e1] at h1
      omega
    have CS : Hid (∀ W, Calls Tryz.prog 24 #[.agg #[.int .i64 a, .int .i64 b, .int .i64 c, .int .i64 d], .int .i64 slot] W fun r w' => r = .returned (.slice none 0 0) ∧ Below W.heap.size W w') := fun W => refsecs_no a b c d slot W hh
    clear HY HNO hh e1 hb
    unfold GotHd NoHd
    go_enter Tryz.func7, Tryz.ntmps7
    go_upto_region 1 with fail
    generalize (w.alloc (.cells #[.int .i64 a, .int .i64 b, .int .i64 c, .int .i64 d] 29)).alloc (.cells #[.int .i64 0, .int .i64 0, .int .i64 0, .int .i64 0, .int .i64 0, .int .i64 0] 35) = w0 at *
    obtain ⟨z0, z1, z2, z3⟩ := four_cells HS0.out.1
    go_wp2_with fail
    refine (CS.out _).mono ?_
    rintro r w2 ⟨rfl, hb2⟩
    have HS2 := Lib.hid (HS0.out.next hb2 (by rfl) (by rfl) (by rfl) (by rfl))
    clear hb2 CS HS0 z0 z1 z2 z3
    obtain ⟨y0, y1, y2, y3, y4, y5⟩ := six_cells HS2.out.2.1
    obtain ⟨f0, f1, f2, f3, f4, f5⟩ := six_frozen HS2.out.2.1
    go_wp2_with fail
    (try simp only [Exit.inBlock, Exit.then])
    refine bodyPost_ret (results_row2 rfl _ _ (w.heap.size + 1) _ _ (0, 0) _ rfl (stored6 HS2.out.2.1) Tryz.underlying35 rfl (by kernel_rfl)) rfl ?_
    exact .inr ⟨HOO.out, rfl, sd2_res6 HS2.out⟩
end Go.Proofs.YtgnbmmceffolmaaGreatDoor
