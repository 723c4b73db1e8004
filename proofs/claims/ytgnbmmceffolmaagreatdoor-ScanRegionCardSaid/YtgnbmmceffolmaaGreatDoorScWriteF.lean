/-
  The function of the laws of layer 15 that writes a region by the reference, with changed bytes.
-/
import Derived.Test.YtgnbmmceffolmaaGreatDoorScWrittenF
import Derived.Test.YtgnbmmceffolmaaGreatDoorFoldE
import Derived.StillTailTactics
set_option maxRecDepth 100000
namespace Go.Proofs.YtgnbmmceffolmaaGreatDoor
open Go.RowKit
theorem u8_sum (y a : Nat) : ∃ u : Nat, IntKind.u8.wrap ((y : Int) + (a : Int)) = (u : Int) ∧ u < 256 := ⟨(y + a) % 256, by rw [IntKind.wrap_u8]; omega, by omega⟩
theorem spoil_nums (sx : Int) (rs n : Nat) (h1 : 2 ≤ rs) (h2 : rs ≤ 16) (hn : n = 74 + 4 * rs) : ∃ (M : Nat) (t : Int) (m p : Nat), wrap64 ((rs : Int) * 64) = (M : Int) ∧ wrap64 (4736 + (M : Int)) = 4736 + (M : Int) ∧ sx.tmod (M : Int) = t ∧ IntKind.i64.wrap t = t ∧ wrap64 (t + (M : Int)) = t + (M : Int) ∧ (t + (M : Int)).tmod (M : Int) = (m : Int) ∧ wrap64 (4736 + (M : Int) + (m : Int)) = (p : Int) ∧ wrap64 t = t ∧ IntKind.i64.wrap (t + (M : Int)) = t + (M : Int) ∧ IntKind.i64.wrap (4736 + (M : Int) + (m : Int)) = (p : Int) ∧ p < n * 64 ∧ 0 < M ∧ (M : Int) ≠ 0 ∧ (0 : Int) ≤ (p : Int) := by
  obtain ⟨t, m, hw1, hw2, hw3, hw4, hw5⟩ := wrap_mod sx (64 * rs) (by omega) (by omega)
  refine ⟨64 * rs, t, m, 4736 + 64 * rs + m, ?_, ?_, hw1, ?_, ?_, hw4, ?_, ?_, ?_, ?_, by omega, by omega, by omega, by omega⟩
  · unfold wrap64; clear hw1 hw4; omega
  · unfold wrap64; clear hw1 hw4; omega
  · rw [IntKind.wrap_i64]; clear hw1 hw4; omega
  · unfold wrap64; clear hw1 hw4; omega
  · unfold wrap64; clear hw1 hw4; omega
  · unfold wrap64; clear hw1 hw4; omega
  · rw [IntKind.wrap_i64]; clear hw1 hw4; omega
  · rw [IntKind.wrap_i64]; clear hw1 hw4; omega
set_option maxHeartbeats 4000000 in
theorem written_any (xv xg : Int) (A1 A2 A3 : Option Addr) (n1 n2 n3 c1 c2 c3 : Nat) (l1 : List Rd) (l2 : List Bool) (l3 : List Spl) (w : World) (hl1 : Hid (l1.length = n1)) (hb1 : Hid (RecsAt w w.heap.size A1 l1)) (hl2 : Hid (l2.length = n2)) (hb2 : Hid (Arr boolS w 0 w.heap.size A2 l2)) (hl3 : Hid (l3.length = n3)) (hb3 : Hid (Arr spS w 0 w.heap.size A3 l3 ∧ ∀ k, k < n3 → (l3.getD k Spl0).ok)) :
    ∃ (ver : Int) (rs : Nat), Small ver rs ∧ Calls Tryz.prog 4 #[.int .i64 xv, .int .i64 xg, .slice A1 n1 c1, .slice A2 n2 c2, .slice A3 n3 c3] w (WrIs w ver rs (n3 = 0)) := by
  obtain ⟨ver, rs, hsm, hlay⟩ := rglayout_any xv xg
  refine ⟨ver, rs, hsm, ?_⟩
  have HSM := Lib.hid hsm
  have HLAY := Lib.hid hlay
  have HRS : Hid (rs ≤ 16 ∧ 2 ≤ rs) := by have := hsm.2; show _ ∧ _; omega
  obtain ⟨n, hn⟩ : ∃ n : Nat, n = 74 + 4 * rs := ⟨_, rfl⟩
  have HN := Lib.hid hn
  have hnb : n ≤ 138 := by have := HRS.out; omega
  have m1 : wrap64 (4 * (rs : Int)) = 4 * (rs : Int) := by have := HRS.out; unfold wrap64; omega
  have m2 : wrap64 (74 + 4 * (rs : Int)) = 74 + 4 * (rs : Int) := by have := HRS.out; unfold wrap64; omega
  have HNEW : Hid (∀ W, Calls Tryz.prog 13 #[.int .i64 (74 + 4 * (rs : Int))] W (RMade W n (List.replicate (n * 64) 0))) := fun W => by
    have h := blank_any n W (by have := HN.out; omega) (by omega)
    rwa [show (n : Int) = 74 + 4 * (rs : Int) by rw [HN.out]; omega] at h
  unfold RMade at HNEW
  have hok : Pk.ok ⟨3, ver, (rs : Int), 4⟩ 1 9 := hsm.ok4 (by decide) (by decide) (by decide) (by decide)
  have HOK := Lib.hid hok
  have HVAL : Hid (Hd.valid ⟨ver, 1, 3, 9, 2, 0⟩) := ⟨hsm.1, (by show (0 : Int) ≤ 1 ∧ (1 : Int) ≤ 15; decide), (by show (1 : Int) ≤ 3 ∧ (3 : Int) ≤ 4294967295; decide), (by show (1 : Int) ≤ 9 ∧ (9 : Int) ≤ 281474976710655; decide), (by show (0 : Int) ≤ 2 ∧ (2 : Int) ≤ 9; decide), (by show (0 : Int) ≤ 0 ∧ (0 : Int) ≤ 549755813888; decide)⟩
  have HPL : Hid ((Rg.begun (Flash.fresh (List.replicate (n * 64) 0)) n (Gm.spot ⟨3, ver, (rs : Int), 4⟩ 1) (Hd.enc (Gm.spot ⟨3, ver, (rs : Int), 4⟩ 1) ⟨ver, 1, 3, 9, 2, 0⟩)).2 = 0 ∧ Sc.Holds ⟨3, ver, (rs : Int), 4⟩ 1 9 (Hd.enc (Gm.spot ⟨3, ver, (rs : Int), 4⟩ 1) ⟨ver, 1, 3, 9, 2, 0⟩) [] 0 n (Rg.begun (Flash.fresh (List.replicate (n * 64) 0)) n (Gm.spot ⟨3, ver, (rs : Int), 4⟩ 1) (Hd.enc (Gm.spot ⟨3, ver, (rs : Int), 4⟩ 1) ⟨ver, 1, 3, 9, 2, 0⟩)).1) :=
    Sc.holds_begun hok (by show 74 + 1 * (rs : Int) + (rs : Int) ≤ (n : Int); rw [HN.out]; omega) (Hd.enc_length _ _)
  have HWR1 : Hid ((Rg.begun (Flash.fresh (List.replicate (n * 64) 0)) n (Gm.spot ⟨3, ver, (rs : Int), 4⟩ 1) (Hd.enc (Gm.spot ⟨3, ver, (rs : Int), 4⟩ 1) ⟨ver, 1, 3, 9, 2, 0⟩)).1.wr = 1) := (Rg.begun_plain (plain_fresh (List.replicate (n * 64) 0)) (n := n) (by show 0 ≤ 74 + 1 * (rs : Int) ∧ 74 + 1 * (rs : Int) < (n : Int); rw [HN.out]; have := HRS.out; omega) (by rw [Hd.enc_length]; decide)).2.2.1
  have HFO : Hid (FlashOk n (Flash.fresh (List.replicate (n * 64) 0))) := ⟨by have := HN.out; omega, by omega, List.length_replicate, fun x hx => by rw [(List.mem_replicate.1 hx).2]; decide, fun i l h => (by cases h), fun h => (by cases h)⟩
  have HFO1 : Hid (FlashOk n (Rg.begun (Flash.fresh (List.replicate (n * 64) 0)) n (Gm.spot ⟨3, ver, (rs : Int), 4⟩ 1) (Hd.enc (Gm.spot ⟨3, ver, (rs : Int), 4⟩ 1) ⟨ver, 1, 3, 9, 2, 0⟩)).1) := by
    show FlashOk n (Rg.syncFs _)
    unfold Rg.syncFs
    have h1 : FlashOk n ((Flash.fresh (List.replicate (n * 64) 0)).write n (Gm.spot ⟨3, ver, (rs : Int), 4⟩ 1) (Hd.enc (Gm.spot ⟨3, ver, (rs : Int), 4⟩ 1) ⟨ver, 1, 3, 9, 2, 0⟩)) := HFO.out.write (Hd.enc_lt _ _)
    split
    · exact h1.barrier
    · exact h1
  have HN2 : Hid ((n3 = 0) → (n3 = 0)) := fun h => h
  clear hsm hlay hn hok
  have HX0 := Lib.hid (heap_alloc_new w (.cells #[.int .i64 0, .int .i64 0, .int .i64 0, .int .i64 0] 29))
  have HB0 : Hid (Below w.heap.size w (w.alloc (.cells #[.int .i64 0, .int .i64 0, .int .i64 0, .int .i64 0] 29))) := (Below.refl _ w).alloc (Nat.le_refl _) _
  go_enter Tryz.func4, Tryz.ntmps4
  go_upto_region 1 with fail
  generalize w.alloc (.cells #[.int .i64 0, .int .i64 0, .int .i64 0, .int .i64 0] 29) = w0 at *
  go_wp2_with fail
  refine (HLAY.out _).mono ?_
  rintro e w2 ⟨rfl, hb2w⟩
  have HB2 := Lib.hid (HB0.out.trans (hb2w.mono HB0.out.size))
  have HX2 := Lib.hid ((hb2w.block _ (Array.getElem?_eq_some_iff.1 HX0.out).1).trans HX0.out)
  clear hb2w HLAY HX0 HB0
  go_upto_region 2 with fail
  have HX3 := Lib.hid (heap_alloc_new w2 (.cells #[.int .i64 3, .int .i64 ver, .int .i64 (rs : Int), .int .i64 4] 29))
  have HB3 : Hid (Below w.heap.size w (w2.alloc (.cells #[.int .i64 3, .int .i64 ver, .int .i64 (rs : Int), .int .i64 4] 29))) := HB2.out.alloc HB2.out.size _
  have HR3 := Lib.hid ((heap_alloc_old w2 (.cells #[.int .i64 3, .int .i64 ver, .int .i64 (rs : Int), .int .i64 4] 29) (Array.getElem?_eq_some_iff.1 HX2.out).1).trans HX2.out)
  clear HX2
  generalize w2.alloc (.cells #[.int .i64 3, .int .i64 ver, .int .i64 (rs : Int), .int .i64 4] 29) = w2a at *
  generalize w2.heap.size = q3 at *
  obtain ⟨z0, z1, z2, z3⟩ := four_cells HX3.out
  go_wp2_with fail
  refine (HNEW.out _).mono ?_
  rintro e w3 ⟨gd, od, vd, td, rfl, hd3, hg3, ho3, hv3, ht3, hb3⟩
  have HX4 := Lib.hid ((hb3.block q3 (Array.getElem?_eq_some_iff.1 HX3.out).1).trans HX3.out)
  have HR4 := Lib.hid ((hb3.block w.heap.size (Array.getElem?_eq_some_iff.1 HR3.out).1).trans HR3.out)
  have HB4 := Lib.hid (HB3.out.trans (hb3.mono HB3.out.size))
  have HD3 := Lib.hid hd3
  have HFAR : Hid (∀ k, rS gd od vd td k → w2a.heap.size ≤ k) := fun k hk => by
    unfold rS at hk
    omega
  have HNW : Hid (∀ k, rS gd od vd td k → w.heap.size ≤ k) := fun k hk => Nat.le_trans HB3.out.size (HFAR.out k hk)
  have HQ3 : Hid (q3 < w2a.heap.size ∧ w.heap.size < w2a.heap.size ∧ w2a.heap.size ≤ w3.heap.size) := ⟨(Array.getElem?_eq_some_iff.1 HX3.out).1, (Array.getElem?_eq_some_iff.1 HR3.out).1, hb3.size⟩
  clear hb3 hd3 hg3 ho3 hv3 ht3 HNEW HB3 HX3 HR3 z0 z1 z2 z3 m1 m2
  obtain ⟨z0, z1, z2, z3⟩ := four_cells HX4.out
  go_wp2_with fail
  refine (refrgopen_any (W := w) 3 ver (rs : Int) 4 ver 1 3 9 2 0 HVAL.out HOK.out HB4 HNW HD3 HFO (by decide) (by show 0 < _; decide)).mono ?_
  intro e w4 ho
  rcases ho with ⟨h, -⟩ | ⟨-, r, gp, cl, rfl, hst, hk4, hcl⟩
  · exact absurd HPL.out.1 h
  have HFREE : Hid (∀ b, b < w2a.heap.size → cl b = 0 ∧ (∀ o, w3.heap[b]? = some o → w4.heap[b]? = some o)) := fun b hb => ⟨Decidable.byContradiction fun hc => by
    rcases hcl b hc with h | h
    · have := HFAR.out b h; omega
    · have := HQ3.out; omega, fun o ho => (hk4.block b (by have := HQ3.out; omega) fun e => by have := HFAR.out b e; omega).trans ho⟩
  have HLY4 : Hid (Free cl w4 q3 (.cells #[.int .i64 3, .int .i64 ver, .int .i64 (rs : Int), .int .i64 4] 29 (0, 0))) := ⟨(HFREE.out q3 HQ3.out.1).2 _ HX4.out, (HFREE.out q3 HQ3.out.1).1⟩
  have HRE4 : Hid (Free cl w4 w.heap.size (.cells #[.int .i64 0, .int .i64 0, .int .i64 0, .int .i64 0] 29 (0, 0))) := ⟨(HFREE.out _ HQ3.out.2.1).2 _ HR4.out, (HFREE.out _ HQ3.out.2.1).1⟩
  generalize (Rg.begun (Flash.fresh (List.replicate (n * 64) 0)) n (Gm.spot ⟨3, ver, (rs : Int), 4⟩ 1) (Hd.enc (Gm.spot ⟨3, ver, (rs : Int), 4⟩ 1) ⟨ver, 1, 3, 9, 2, 0⟩)) = R at *
  obtain ⟨f1, x1⟩ := R
  simp only at hst
  have HST4 : Hid (ScH w w4 cl r gd od vd td n (0 + 2) ver rs gp q3 w.heap.size f1 [] 0) :=
    { g := hst, h := HPL.out.2, w := HWR1.out, ok := HFO1.out, lay := HLY4.out, res := HRE4.out }
  clear hst HPL HWR1 z0 z1 z2 z3 HX4 HR4 HD3 hk4 hcl HB4 HNW HQ3 HFREE HLY4 HRE4 HFAR HFO HFO1 HB2
  go_wp2_with fail
  go_loopw [17] (fun iv wr => ∃ (i : Nat) (st : List Nat) (f : Flash) (c : Nat → Nat) (q lo : Nat), iv = .int .i64 (i : Int) ∧ i ≤ 12 ∧ Hid (lo ≤ 2 + Pk.full st + i) ∧ Hid (ScH w wr c r gd od vd td n lo ver rs gp q3 w.heap.size f st q)) (fun i _ => 12 - (Go.RowKit.intOf i).toNat)
  case atStart => exact ⟨0, [], f1, cl, 0, 2, rfl, by decide, by show 2 ≤ 2 + 0 + 0; decide, HST4.out⟩
  case round =>
    clear HST4
    obtain ⟨i, st, f, c, q, lo, rfl, hi12, HLO, HST⟩ := hrel
    rcases loop_ways i n1 12 12 rfl with ⟨t1, t1'⟩ | ⟨t1, t1', t3⟩ | ⟨hin, hi, t1, t1', t3⟩
    · obtain ⟨ro, rv, left, hh, ho, hv, ht, hf, hlo1, hhi, hr1, hr2, hr3⟩ := HST.out.g.d
      obtain ⟨⟨-, y1, -⟩, -⟩ := rd7 hh
      have HCUR : Hid (f.cur.length = n * 64) := HST.out.h.len
      have HCLT : Hid (∀ x ∈ f.cur, x < 256) := HST.out.ok.lt
      have HVR := Lib.hid hv
      obtain ⟨i0, hi0, hz0, hz1, hz2⟩ := info_parts info_u8
      have I0 := Lib.hid (And.intro hi0 (And.intro hz0 (And.intro hz1 hz2)))
      have HNB : Hid (0 + n * 64 ≤ maxLen ∧ (0 + n * 64) * 1 ≤ 140737488355328) := by unfold Hid maxLen; omega
      clear hh ho hv ht hf hlo1 hhi hr1 hr2 hr3 hi0 hz0 hz1 hz2
      go_wp2_with (at_builtin; refine append_onto rfl (.const (.slice none 0 0)) (.tmp 77) 27 rfl wr.heap.size 5 i0 (.int .u8 0) 1 1 Tryz.underlying27 I0.out.1 I0.out.2.1 I0.out.2.2.1 I0.out.2.2.2 rfl (by decide) _ 0 (vals []) rfl (World.ownsRow_nil _ _ _ _) (some ⟨vd, 0, none⟩) (n * 64) (n * 64 + rv.length) (vals f.cur) rfl (fun e => by cases e) (by rw [vals_length, HCUR.out]; omega) (fun ad e => by injection e with e; subst e; exact row_cells HVR.out) (vals_one _) HNB.out.1 HNB.out.2 (Nat.le_refl _) ?_; intro v6 w6 hown6 hg6; have HO6 := Lib.hid hown6; have HG6 := Lib.hid hg6; clear hown6 hg6)
      have HO7 : Hid (w6.ownsRow wr.heap.size 5 1 v6 (n * 64) (vals f.cur)) := by
        have h := HO6.out
        rw [Nat.zero_add] at h
        exact h
      obtain ⟨A6, cp, rfl, -, -, hn6, hm6, hA6⟩ := own_bytes HO7.out HCLT.out
      obtain ⟨ga, rfl⟩ : ∃ ga, A6 = some ⟨ga, 0, none⟩ := by
        rcases hA6 with ⟨-, h, -⟩ | ⟨ga, h, -⟩
        · have := HN.out; omega
        · exact ⟨ga, h⟩
      have HCP : Hid (n * 64 ≤ cp ∧ cp ≤ 9223372036854775807) := ⟨hn6, by unfold maxLen at hm6; exact hm6⟩
      have HB6 : Hid (Below wr.heap.size wr w6) := (Below.refl _ wr).grown HG6.out (Nat.le_refl _) fun g e => by cases e
      have HLY := Lib.hid HST.out.lay.1
      have HRE := Lib.hid HST.out.res.1
      have HUP := Lib.hid HST.out.g.up
      have HHO := Lib.hid HST.out.h
      clear hn6 hm6 hA6 HO6 HG6 HVR y1 HNB I0
      go_loopw [19] (fun jv wx => ∃ (j : Nat) (img : List Nat), jv = .int .i64 (j : Int) ∧ j ≤ 4 ∧ img.length = n * 64 ∧ Hid (∀ x ∈ img, x < 256) ∧ Hid (wx.ownsRow wr.heap.size 5 1 (.slice (some ⟨ga, 0, none⟩) (n * 64) cp) (n * 64) (vals img)) ∧ Hid (Below wr.heap.size wr wx) ∧ Hid (n3 = 0 → img = f.cur)) (fun jv _ => 4 - (Go.RowKit.intOf jv).toNat)
      case atStart => exact ⟨0, f.cur, rfl, by decide, HCUR.out, HCLT.out, HO7.out, HB6.out, fun _ => rfl⟩
      case round =>
        rename World => wx
        obtain ⟨j, img, rfl, hj4, hil, HIB, HIO, HBX, HPL⟩ := hrel
        clear HO7 HB6 HST
        have HLYX := Lib.hid ((HBX.out.block q3 (Array.getElem?_eq_some_iff.1 HLY.out).1).trans HLY.out)
        have HREX := Lib.hid ((HBX.out.block w.heap.size (Array.getElem?_eq_some_iff.1 HRE.out).1).trans HRE.out)
        rcases loop_ways j n3 4 4 rfl with ⟨s1, s1'⟩ | ⟨s1, s1', s3⟩ | ⟨hjn, hj, s1, s1', s3⟩
        · obtain ⟨z0, z1, z2, z3⟩ := four_cells HLYX.out
          obtain ⟨y0, y1, y2, y3⟩ := four_cells HREX.out
          obtain ⟨g0, g1, g2, g3⟩ := four_frozen HREX.out
          have HLT : Hid (w.heap.size < wr.heap.size) := (Array.getElem?_eq_some_iff.1 HRE.out).1
          go_wp2_with fail
          go_region
          go_wp2_with fail
          (try simp only [Exit.inBlock, Exit.then])
          refine bodyPost_ret (results_row121 rfl _ _ w.heap.size _ _ (0, 0) _ rfl (stored HREX.out) Tryz.underlying29 rfl (by kernel_rfl)) rfl ?_
          have HOZ := ownsRow_setCell_below (ownsRow_setCell_below (ownsRow_setCell_below (ownsRow_setCell_below HIO.out (a := ⟨w.heap.size, 0, none⟩) HLT.out (.int .i64 3)) (a := ⟨w.heap.size, 1, none⟩) HLT.out (.int .i64 ver)) (a := ⟨w.heap.size, 2, none⟩) HLT.out (.int .i64 (rs : Int))) (a := ⟨w.heap.size, 3, none⟩) HLT.out (.int .i64 4)
          obtain ⟨A9, cp9, hv9, hbs9, -⟩ := own_bytes HOZ HIB.out
          injection hv9 with hv1 _ hv3
          subst hv1 hv3
          exact ⟨ga, n * 64, cp, img, rfl, by rw [HN.out], HCP.out, hil, hbs9, below_drawn ((HUP.out.trans (HBX.out.mono HUP.out.size)).trans (below_of_grown (stored_grown _ _ _ _ _ _) (Nat.le_refl _) (Nat.le_trans HUP.out.size HBX.out.size))) 1, fun h => ⟨st, q, f, by rw [← HN.out]; exact HHO.out, HPL.out h⟩⟩
        · obtain ⟨z0, z1, z2, z3⟩ := four_cells HLYX.out
          obtain ⟨y0, y1, y2, y3⟩ := four_cells HREX.out
          obtain ⟨g0, g1, g2, g3⟩ := four_frozen HREX.out
          have HLT : Hid (w.heap.size < wr.heap.size) := (Array.getElem?_eq_some_iff.1 HRE.out).1
          go_wp2_with fail
          go_region
          go_wp2_with fail
          (try simp only [Exit.inBlock, Exit.then])
          refine bodyPost_ret (results_row121 rfl _ _ w.heap.size _ _ (0, 0) _ rfl (stored HREX.out) Tryz.underlying29 rfl (by kernel_rfl)) rfl ?_
          have HOZ := ownsRow_setCell_below (ownsRow_setCell_below (ownsRow_setCell_below (ownsRow_setCell_below HIO.out (a := ⟨w.heap.size, 0, none⟩) HLT.out (.int .i64 3)) (a := ⟨w.heap.size, 1, none⟩) HLT.out (.int .i64 ver)) (a := ⟨w.heap.size, 2, none⟩) HLT.out (.int .i64 (rs : Int))) (a := ⟨w.heap.size, 3, none⟩) HLT.out (.int .i64 4)
          obtain ⟨A9, cp9, hv9, hbs9, -⟩ := own_bytes HOZ HIB.out
          injection hv9 with hv1 _ hv3
          subst hv1 hv3
          exact ⟨ga, n * 64, cp, img, rfl, by rw [HN.out], HCP.out, hil, hbs9, below_drawn ((HUP.out.trans (HBX.out.mono HUP.out.size)).trans (below_of_grown (stored_grown _ _ _ _ _ _) (Nat.le_refl _) (Nat.le_trans HUP.out.size HBX.out.size))) 1, fun h => ⟨st, q, f, by rw [← HN.out]; exact HHO.out, HPL.out h⟩⟩
        · obtain ⟨a3, rfl⟩ := hb3.out.1.some (k := j) (by rw [hl3.out]; exact hjn)
          obtain ⟨sp, hsp⟩ : ∃ sp, l3.getD j Spl0 = sp := ⟨_, rfl⟩
          have hso := hb3.out.2 j hjn
          rw [hsp] at hso
          have hca := (hb3.out.1.below (HUP.out.trans (HBX.out.mono HUP.out.size)) (Nat.le_refl _))
          have k0 : wx.cell? (a3.add (j * 2)) = some (.int .i64 sp.at_) := hca.cell j (by rw [hl3.out]; exact hjn) 0 _ (by rw [show l3.getD j spS.z = sp from hsp]; rfl)
          have k1 : wx.cell? ⟨(a3.add (j * 2)).block, (a3.add (j * 2)).off + 1, none⟩ = some (.int .u8 (sp.add : Int)) := by
            have h := hca.cell j (by rw [hl3.out]; exact hjn) 1 (.int .u8 (sp.add : Int)) (by rw [show l3.getD j spS.z = sp from hsp]; rfl)
            rwa [show j * spS.m + 1 = j * 2 + 1 from rfl, at_field _ _ _ (by decide)] at h
          obtain ⟨sx, sa⟩ := sp
          obtain ⟨hs1, hs2, hs3⟩ := hso
          simp only at k0 k1 hs1 hs2 hs3
          have hjn2 : (j : Int) < (n3 : Int) := Int.ofNat_lt.2 hjn
          obtain ⟨M, t, m, p, m3, m4, hw1, m9, m5, hw4, m6, m10, m7, m8, hpn, hM0, hM1, hp0⟩ := spoil_nums sx rs n HRS.out.2 HRS.out.1 HN.out
          have hpn2 : (p : Int) < (n : Int) * 64 := Int.ofNat_lt.2 hpn
          obtain ⟨A9, cp9, hv9, hbs9, -⟩ := own_bytes HIO.out HIB.out
          injection hv9 with hv1 _ hv3
          subst hv1 hv3
          obtain ⟨hy, ad9, e9, -, k2⟩ := hbs9 p (by rw [hil]; exact hpn)
          injection e9 with e9
          subst e9
          rw [arr_flat, Nat.zero_add] at k2
          have k3 := HIO.out.frozenAt p
          obtain ⟨y, hyy⟩ : ∃ y, img.getD p 0 = y := ⟨_, rfl⟩
          rw [hyy] at k2 hy
          obtain ⟨u, hu1, hu2⟩ := u8_sum y sa
          obtain ⟨z0, z1, z2, z3⟩ := four_cells HLYX.out
          have hM2 : ¬ M = 0 := Nat.ne_of_gt hM0
          have hMne : ((M : Int) == 0) = false := by rw [beq_eq_false_iff_ne]; exact hM1
          go_upto_region 16 with fail
          refine wp_region_still_tail 23 (by kernel_rfl) (by kernel_rfl) ?_
          simp only [List.take_succ_cons, List.take_zero, List.drop_succ_cons, List.drop_zero]
          iterate 23 still_step
          refine wpStill_nil ?_
          change wpList _ _ _ _ _ wx.drew
          go_wp2_with fail
          have HGA : Hid (wr.heap.size ≤ ga) := (HIO.out.lt ga rfl).1
          have HST2 := (HIO.out.stored p (.int .u8 (u : Int))).1
          rw [vals_set] at HST2
          have HBS2 := HBX.out.setCell (p := ⟨ga, p, none⟩) HGA.out (.int .u8 (u : Int))
          go_roundw
          case rel => exact ⟨j + 1, img.set p u, by go_num, by omega, by rw [List.length_set]; exact hil, (fun x hx => by
            rcases List.mem_or_eq_of_mem_set hx with h | h
            · exact HIB.out x h
            · rw [h]; exact hu2), HST2, HBS2.drew, fun h => absurd h (by omega)⟩
          case measure => simp [Go.RowKit.intOf]; omega
    · obtain ⟨ro, rv, left, hh, ho, hv, ht, hf, hlo1, hhi, hr1, hr2, hr3⟩ := HST.out.g.d
      obtain ⟨⟨-, y1, -⟩, -⟩ := rd7 hh
      have HCUR : Hid (f.cur.length = n * 64) := HST.out.h.len
      have HCLT : Hid (∀ x ∈ f.cur, x < 256) := HST.out.ok.lt
      have HVR := Lib.hid hv
      obtain ⟨i0, hi0, hz0, hz1, hz2⟩ := info_parts info_u8
      have I0 := Lib.hid (And.intro hi0 (And.intro hz0 (And.intro hz1 hz2)))
      have HNB : Hid (0 + n * 64 ≤ maxLen ∧ (0 + n * 64) * 1 ≤ 140737488355328) := by unfold Hid maxLen; omega
      clear hh ho hv ht hf hlo1 hhi hr1 hr2 hr3 hi0 hz0 hz1 hz2
      go_wp2_with (at_builtin; refine append_onto rfl (.const (.slice none 0 0)) (.tmp 77) 27 rfl wr.heap.size 5 i0 (.int .u8 0) 1 1 Tryz.underlying27 I0.out.1 I0.out.2.1 I0.out.2.2.1 I0.out.2.2.2 rfl (by decide) _ 0 (vals []) rfl (World.ownsRow_nil _ _ _ _) (some ⟨vd, 0, none⟩) (n * 64) (n * 64 + rv.length) (vals f.cur) rfl (fun e => by cases e) (by rw [vals_length, HCUR.out]; omega) (fun ad e => by injection e with e; subst e; exact row_cells HVR.out) (vals_one _) HNB.out.1 HNB.out.2 (Nat.le_refl _) ?_; intro v6 w6 hown6 hg6; have HO6 := Lib.hid hown6; have HG6 := Lib.hid hg6; clear hown6 hg6)
      have HO7 : Hid (w6.ownsRow wr.heap.size 5 1 v6 (n * 64) (vals f.cur)) := by
        have h := HO6.out
        rw [Nat.zero_add] at h
        exact h
      obtain ⟨A6, cp, rfl, -, -, hn6, hm6, hA6⟩ := own_bytes HO7.out HCLT.out
      obtain ⟨ga, rfl⟩ : ∃ ga, A6 = some ⟨ga, 0, none⟩ := by
        rcases hA6 with ⟨-, h, -⟩ | ⟨ga, h, -⟩
        · have := HN.out; omega
        · exact ⟨ga, h⟩
      have HCP : Hid (n * 64 ≤ cp ∧ cp ≤ 9223372036854775807) := ⟨hn6, by unfold maxLen at hm6; exact hm6⟩
      have HB6 : Hid (Below wr.heap.size wr w6) := (Below.refl _ wr).grown HG6.out (Nat.le_refl _) fun g e => by cases e
      have HLY := Lib.hid HST.out.lay.1
      have HRE := Lib.hid HST.out.res.1
      have HUP := Lib.hid HST.out.g.up
      have HHO := Lib.hid HST.out.h
      clear hn6 hm6 hA6 HO6 HG6 HVR y1 HNB I0
      go_loopw [19] (fun jv wx => ∃ (j : Nat) (img : List Nat), jv = .int .i64 (j : Int) ∧ j ≤ 4 ∧ img.length = n * 64 ∧ Hid (∀ x ∈ img, x < 256) ∧ Hid (wx.ownsRow wr.heap.size 5 1 (.slice (some ⟨ga, 0, none⟩) (n * 64) cp) (n * 64) (vals img)) ∧ Hid (Below wr.heap.size wr wx) ∧ Hid (n3 = 0 → img = f.cur)) (fun jv _ => 4 - (Go.RowKit.intOf jv).toNat)
      case atStart => exact ⟨0, f.cur, rfl, by decide, HCUR.out, HCLT.out, HO7.out, HB6.out, fun _ => rfl⟩
      case round =>
        rename World => wx
        obtain ⟨j, img, rfl, hj4, hil, HIB, HIO, HBX, HPL⟩ := hrel
        clear HO7 HB6 HST
        have HLYX := Lib.hid ((HBX.out.block q3 (Array.getElem?_eq_some_iff.1 HLY.out).1).trans HLY.out)
        have HREX := Lib.hid ((HBX.out.block w.heap.size (Array.getElem?_eq_some_iff.1 HRE.out).1).trans HRE.out)
        rcases loop_ways j n3 4 4 rfl with ⟨s1, s1'⟩ | ⟨s1, s1', s3⟩ | ⟨hjn, hj, s1, s1', s3⟩
        · obtain ⟨z0, z1, z2, z3⟩ := four_cells HLYX.out
          obtain ⟨y0, y1, y2, y3⟩ := four_cells HREX.out
          obtain ⟨g0, g1, g2, g3⟩ := four_frozen HREX.out
          have HLT : Hid (w.heap.size < wr.heap.size) := (Array.getElem?_eq_some_iff.1 HRE.out).1
          go_wp2_with fail
          go_region
          go_wp2_with fail
          (try simp only [Exit.inBlock, Exit.then])
          refine bodyPost_ret (results_row121 rfl _ _ w.heap.size _ _ (0, 0) _ rfl (stored HREX.out) Tryz.underlying29 rfl (by kernel_rfl)) rfl ?_
          have HOZ := ownsRow_setCell_below (ownsRow_setCell_below (ownsRow_setCell_below (ownsRow_setCell_below HIO.out (a := ⟨w.heap.size, 0, none⟩) HLT.out (.int .i64 3)) (a := ⟨w.heap.size, 1, none⟩) HLT.out (.int .i64 ver)) (a := ⟨w.heap.size, 2, none⟩) HLT.out (.int .i64 (rs : Int))) (a := ⟨w.heap.size, 3, none⟩) HLT.out (.int .i64 4)
          obtain ⟨A9, cp9, hv9, hbs9, -⟩ := own_bytes HOZ HIB.out
          injection hv9 with hv1 _ hv3
          subst hv1 hv3
          exact ⟨ga, n * 64, cp, img, rfl, by rw [HN.out], HCP.out, hil, hbs9, below_drawn ((HUP.out.trans (HBX.out.mono HUP.out.size)).trans (below_of_grown (stored_grown _ _ _ _ _ _) (Nat.le_refl _) (Nat.le_trans HUP.out.size HBX.out.size))) 1, fun h => ⟨st, q, f, by rw [← HN.out]; exact HHO.out, HPL.out h⟩⟩
        · obtain ⟨z0, z1, z2, z3⟩ := four_cells HLYX.out
          obtain ⟨y0, y1, y2, y3⟩ := four_cells HREX.out
          obtain ⟨g0, g1, g2, g3⟩ := four_frozen HREX.out
          have HLT : Hid (w.heap.size < wr.heap.size) := (Array.getElem?_eq_some_iff.1 HRE.out).1
          go_wp2_with fail
          go_region
          go_wp2_with fail
          (try simp only [Exit.inBlock, Exit.then])
          refine bodyPost_ret (results_row121 rfl _ _ w.heap.size _ _ (0, 0) _ rfl (stored HREX.out) Tryz.underlying29 rfl (by kernel_rfl)) rfl ?_
          have HOZ := ownsRow_setCell_below (ownsRow_setCell_below (ownsRow_setCell_below (ownsRow_setCell_below HIO.out (a := ⟨w.heap.size, 0, none⟩) HLT.out (.int .i64 3)) (a := ⟨w.heap.size, 1, none⟩) HLT.out (.int .i64 ver)) (a := ⟨w.heap.size, 2, none⟩) HLT.out (.int .i64 (rs : Int))) (a := ⟨w.heap.size, 3, none⟩) HLT.out (.int .i64 4)
          obtain ⟨A9, cp9, hv9, hbs9, -⟩ := own_bytes HOZ HIB.out
          injection hv9 with hv1 _ hv3
          subst hv1 hv3
          exact ⟨ga, n * 64, cp, img, rfl, by rw [HN.out], HCP.out, hil, hbs9, below_drawn ((HUP.out.trans (HBX.out.mono HUP.out.size)).trans (below_of_grown (stored_grown _ _ _ _ _ _) (Nat.le_refl _) (Nat.le_trans HUP.out.size HBX.out.size))) 1, fun h => ⟨st, q, f, by rw [← HN.out]; exact HHO.out, HPL.out h⟩⟩
        · obtain ⟨a3, rfl⟩ := hb3.out.1.some (k := j) (by rw [hl3.out]; exact hjn)
          obtain ⟨sp, hsp⟩ : ∃ sp, l3.getD j Spl0 = sp := ⟨_, rfl⟩
          have hso := hb3.out.2 j hjn
          rw [hsp] at hso
          have hca := (hb3.out.1.below (HUP.out.trans (HBX.out.mono HUP.out.size)) (Nat.le_refl _))
          have k0 : wx.cell? (a3.add (j * 2)) = some (.int .i64 sp.at_) := hca.cell j (by rw [hl3.out]; exact hjn) 0 _ (by rw [show l3.getD j spS.z = sp from hsp]; rfl)
          have k1 : wx.cell? ⟨(a3.add (j * 2)).block, (a3.add (j * 2)).off + 1, none⟩ = some (.int .u8 (sp.add : Int)) := by
            have h := hca.cell j (by rw [hl3.out]; exact hjn) 1 (.int .u8 (sp.add : Int)) (by rw [show l3.getD j spS.z = sp from hsp]; rfl)
            rwa [show j * spS.m + 1 = j * 2 + 1 from rfl, at_field _ _ _ (by decide)] at h
          obtain ⟨sx, sa⟩ := sp
          obtain ⟨hs1, hs2, hs3⟩ := hso
          simp only at k0 k1 hs1 hs2 hs3
          have hjn2 : (j : Int) < (n3 : Int) := Int.ofNat_lt.2 hjn
          obtain ⟨M, t, m, p, m3, m4, hw1, m9, m5, hw4, m6, m10, m7, m8, hpn, hM0, hM1, hp0⟩ := spoil_nums sx rs n HRS.out.2 HRS.out.1 HN.out
          have hpn2 : (p : Int) < (n : Int) * 64 := Int.ofNat_lt.2 hpn
          obtain ⟨A9, cp9, hv9, hbs9, -⟩ := own_bytes HIO.out HIB.out
          injection hv9 with hv1 _ hv3
          subst hv1 hv3
          obtain ⟨hy, ad9, e9, -, k2⟩ := hbs9 p (by rw [hil]; exact hpn)
          injection e9 with e9
          subst e9
          rw [arr_flat, Nat.zero_add] at k2
          have k3 := HIO.out.frozenAt p
          obtain ⟨y, hyy⟩ : ∃ y, img.getD p 0 = y := ⟨_, rfl⟩
          rw [hyy] at k2 hy
          obtain ⟨u, hu1, hu2⟩ := u8_sum y sa
          obtain ⟨z0, z1, z2, z3⟩ := four_cells HLYX.out
          have hM2 : ¬ M = 0 := Nat.ne_of_gt hM0
          have hMne : ((M : Int) == 0) = false := by rw [beq_eq_false_iff_ne]; exact hM1
          go_upto_region 16 with fail
          refine wp_region_still_tail 23 (by kernel_rfl) (by kernel_rfl) ?_
          simp only [List.take_succ_cons, List.take_zero, List.drop_succ_cons, List.drop_zero]
          iterate 23 still_step
          refine wpStill_nil ?_
          change wpList _ _ _ _ _ wx.drew
          go_wp2_with fail
          have HGA : Hid (wr.heap.size ≤ ga) := (HIO.out.lt ga rfl).1
          have HST2 := (HIO.out.stored p (.int .u8 (u : Int))).1
          rw [vals_set] at HST2
          have HBS2 := HBX.out.setCell (p := ⟨ga, p, none⟩) HGA.out (.int .u8 (u : Int))
          go_roundw
          case rel => exact ⟨j + 1, img.set p u, by go_num, by omega, by rw [List.length_set]; exact hil, (fun x hx => by
            rcases List.mem_or_eq_of_mem_set hx with h | h
            · exact HIB.out x h
            · rw [h]; exact hu2), HST2, HBS2.drew, fun h => absurd h (by omega)⟩
          case measure => simp [Go.RowKit.intOf]; omega
    · obtain ⟨ad, hA⟩ := hb1.out.1.some (k := i) (by rw [hl1.out]; exact hin)
      subst hA
      have hca := hb1.out.1.below HST.out.g.up (Nat.le_refl _)
      obtain ⟨o, ho⟩ : ∃ o, l1.getD i Rd0 = o := ⟨_, rfl⟩
      obtain ⟨e0, e1, e2, e3⟩ := recs_at hca i (by rw [hl1.out]; exact hin) o ho
      have HR0 := Lib.hid (hb1.out.2 i (by rw [hl1.out]; exact hin))
      rw [ho] at HR0
      have hib : (i : Int) < 12 := by omega
      have hib2 : (i : Int) < (n1 : Int) := by omega
      clear hca ho
      go_wp2_with fail
      refine (shortrec_any o _ ⟨HR0.out.1.1, HR0.out.2.1⟩).mono ?_
      rintro e w5 ⟨rfl, hb5⟩
      have HST5 := Lib.hid (HST.out.new hb5)
      have HRS5 := Lib.hid (Rd.here.short HR0.out)
      have HSMA : Hid (o.short.n1 ≤ 140737488355328 ∧ o.short.n2 ≤ 140737488355328) := by show min _ _ ≤ _ ∧ min _ _ ≤ _; omega
      clear hb5 e0 e1 e2 e3 HR0 HST
      generalize o.short = s at *
      have HRI : Hid (RecIn w5 w.heap.size s.A1 s.A2 s.n1 s.c1 s.n2 s.c2 s.key s.val) := Rd.here.below HRS5.out HST5.out.g.up (Nat.le_refl _)
      have HLOW : Hid (lo + (Pk.full (Pk.put ⟨3, ver, (rs : Int), 4⟩ 9 st (⟨s.kd, s.key, s.val, s.x⟩ : Rc.Rec)) - Pk.full st) ≤ 1000 ∧ lo + (Pk.full (Pk.put ⟨3, ver, (rs : Int), 4⟩ 9 st (⟨s.kd, s.key, s.val, s.x⟩ : Rc.Rec)) - Pk.full st) ≤ 2 + Pk.full (Pk.put ⟨3, ver, (rs : Int), 4⟩ 9 st (⟨s.kd, s.key, s.val, s.x⟩ : Rc.Rec)) + i) := by
        have h1 := (Sc.full_rs ((HST5.out.fit.put (⟨s.kd, s.key, s.val, s.x⟩ : Rc.Rec) (Rd.here.lt HRS5.out).1 (Rd.here.lt HRS5.out).2).take (i := Pk.full (Pk.put ⟨3, ver, (rs : Int), 4⟩ 9 st (⟨s.kd, s.key, s.val, s.x⟩ : Rc.Rec))) (Nat.le_refl _))).1
        simp only at h1
        have h2 := HLO.out
        have h3 := HRS.out
        have h4 := Rg.full_put ⟨3, ver, (rs : Int), 4⟩ 9 st (⟨s.kd, s.key, s.val, s.x⟩ : Rc.Rec)
        show _ ∧ _
        omega
      go_wp2_with fail
      refine (refrgappend_any s.kd s.x s.key s.val s.A1 s.A2 w.heap.size s.n1 s.c1 s.n2 s.c2 HST5.out.g.up.size HRI (Lib.hid HST5.out.g) HST5.out.fit HSMA.out HST5.out.few HLOW.out.1 (Lib.hid HST5.out.ok)).mono ?_
      rintro e w7 ⟨rfl, c7, hst7, hw7⟩
      have HST7 := Lib.hid (HST5.out.put (⟨s.kd, s.key, s.val, s.x⟩ : Rc.Rec) (Rd.here.lt HRS5.out).1 (Rd.here.lt HRS5.out).2 hw7 hst7)
      have HLO7 := Lib.hid HLOW.out.2
      clear hst7 hw7 HRI HLOW HLO HRS5 HSMA HST5
      generalize Rg.worst (Pk.err ⟨3, ver, (rs : Int), 4⟩ st (⟨s.kd, s.key, s.val, s.x⟩ : Rc.Rec)) (Rg.after ⟨3, ver, (rs : Int), 4⟩ 1 9 f n st (Pk.put ⟨3, ver, (rs : Int), 4⟩ 9 st (⟨s.kd, s.key, s.val, s.x⟩ : Rc.Rec))).2 = p3
      generalize Rg.pos (Pk.err ⟨3, ver, (rs : Int), 4⟩ st (⟨s.kd, s.key, s.val, s.x⟩ : Rc.Rec)) (Rg.after ⟨3, ver, (rs : Int), 4⟩ 1 9 f n st (Pk.put ⟨3, ver, (rs : Int), 4⟩ 9 st (⟨s.kd, s.key, s.val, s.x⟩ : Rc.Rec))).2 ((st.length : Nat) : Int) = p1
      generalize Rg.pos (Pk.err ⟨3, ver, (rs : Int), 4⟩ st (⟨s.kd, s.key, s.val, s.x⟩ : Rc.Rec)) (Rg.after ⟨3, ver, (rs : Int), 4⟩ 1 9 f n st (Pk.put ⟨3, ver, (rs : Int), 4⟩ 9 st (⟨s.kd, s.key, s.val, s.x⟩ : Rc.Rec))).2 ((Rc.len (⟨s.kd, s.key, s.val, s.x⟩ : Rc.Rec) : Nat) : Int) = p2
      generalize (Rg.after ⟨3, ver, (rs : Int), 4⟩ 1 9 f n st (Pk.put ⟨3, ver, (rs : Int), 4⟩ 9 st (⟨s.kd, s.key, s.val, s.x⟩ : Rc.Rec))).1 = f7 at *
      generalize lo + (Pk.full (Pk.put ⟨3, ver, (rs : Int), 4⟩ 9 st (⟨s.kd, s.key, s.val, s.x⟩ : Rc.Rec)) - Pk.full st) = lo7 at *
      generalize Pk.put ⟨3, ver, (rs : Int), 4⟩ 9 st (⟨s.kd, s.key, s.val, s.x⟩ : Rc.Rec) = st7 at *
      rcases take_ways i n2 l2 with ⟨f0, f2, f2'⟩ | ⟨hin2, f2, f4 | f4⟩
      · go_wp2_with fail
        go_roundw
        case rel => exact ⟨i + 1, st7, f7, c7, q, lo7, by go_num, by omega, (by have := HLO7.out; show _ ≤ _; omega), HST7.out⟩
        case measure => simp [Go.RowKit.intOf]; omega
      · obtain ⟨a2, rfl⟩ := hb2.out.some (k := i) (by rw [hl2.out]; exact hin2)
        have c0 := bools_at (hb2.out.below HST7.out.g.up (Nat.le_refl _)) i (by rw [hl2.out]; exact hin2)
        rw [f4] at c0
        clear f4
        go_wp2_with fail
        go_roundw
        case rel => exact ⟨i + 1, st7, f7, c7, q, lo7, by go_num, by omega, (by have := HLO7.out; show _ ≤ _; omega), HST7.out⟩
        case measure => simp [Go.RowKit.intOf]; omega
      · obtain ⟨a2, rfl⟩ := hb2.out.some (k := i) (by rw [hl2.out]; exact hin2)
        have c0 := bools_at (hb2.out.below HST7.out.g.up (Nat.le_refl _)) i (by rw [hl2.out]; exact hin2)
        rw [f4] at c0
        clear f4
        have HLOW : Hid (lo7 + (Pk.full (Pk.pad st7) - Pk.full st7) + 1 ≤ 1000 ∧ lo7 + (Pk.full (Pk.pad st7) - Pk.full st7) + 1 ≤ 2 + Pk.full (Pk.pad st7) + (i + 1)) := by
          have h1 := (Sc.full_rs (HST7.out.fit.pad.take (i := Pk.full (Pk.pad st7)) (Nat.le_refl _))).1
          simp only at h1
          have h2 := HLO7.out
          have h3 := HRS.out
          have h4 := Rg.full_pad st7
          show _ ∧ _
          omega
        go_wp2_with fail
        refine (refrgsync_any (Lib.hid HST7.out.g) HST7.out.fit HST7.out.few HLOW.out.1 (Lib.hid HST7.out.ok) (Lib.hid (HST7.out.ok.after (HST7.out.fit.pad.take (i := Pk.full (Pk.pad st7)) (Nat.le_refl _))))).mono ?_
        rintro e w10 ⟨rfl, c10, hst10, hw10⟩
        have HST10 := Lib.hid (HST7.out.sync hw10 hst10)
        have HLO10 := Lib.hid HLOW.out.2
        clear hst10 hw10 HST7 HLOW HLO7 c0
        generalize Rg.syncErr (Rg.after ⟨3, ver, (rs : Int), 4⟩ 1 9 f7 n st7 (Pk.pad st7)) = p4
        generalize Rg.syncFs (Rg.after ⟨3, ver, (rs : Int), 4⟩ 1 9 f7 n st7 (Pk.pad st7)) = f10 at *
        generalize lo7 + (Pk.full (Pk.pad st7) - Pk.full st7) + 1 = lo10 at *
        generalize Pk.pad st7 = st10 at *
        go_wp2_with fail
        go_roundw
        case rel => exact ⟨i + 1, st10, f10, c10, _, lo10, by go_num, by omega, HLO10.out, HST10.out⟩
        case measure => simp [Go.RowKit.intOf]; omega
end Go.Proofs.YtgnbmmceffolmaaGreatDoor
