/-
  The law ScanPrefix.
-/
import Derived.Test.YtledfdpabmlecaaGreatDoorFoldS
import Derived.Test.YtledfdpabmlecaaGreatDoorFoldQ
import Derived.Test.YtledfdpabmlecaaGreatDoorFoldR
import Derived.Test.YtledfdpabmlecaaGreatDoorFoldI
import Derived.Test.YtledfdpabmlecaaGreatDoorFoldJ
import Derived.BigQuiet
import Derived.Deep.DeepCutAuto
import Derived.Deep.CutBlock
set_option maxRecDepth 100000
namespace Go.Proofs.YtledfdpabmlecaaGreatDoor
open Go.RowKit
set_option maxHeartbeats 8000000 in
theorem scanprefix_any (xv xg xm : Int) (A1 A2 A3 : Option Addr) (n1 n2 n3 c1 c2 c3 : Nat) (l1 : List Rd) (l2 : List Bool) (Ak : Option Addr) (nk ck : Nat) (lk : List Bool) (w : World) (hl1 : Hid (l1.length = n1)) (hb1 : Hid (RecsAt w w.heap.size A1 l1)) (hl2 : Hid (l2.length = n2)) (hb2 : Hid (Arr boolS w 0 w.heap.size A2 l2)) (hsk : SlIs Ak nk ck) (hlk : Hid (lk.length = nk)) (hbk : Hid (Arr boolS w 0 w.heap.size Ak lk)) (ht : Hid (TabW w)) (hz : 0 < w.heap.size) :
    Calls Tryz.prog 4 #[.agg #[.int .i64 xv, .int .i64 xg, .slice A1 n1 c1, .slice A2 n2 c2, .slice A3 n3 c3, .int .i64 xm], .slice Ak nk ck] w fun e w' => e = .returned (.bool true) ∧ Below w.heap.size w w' := by
  obtain ⟨ver, rs, hsm, hlay⟩ := rglayout_any xv xg
  have HSM := Lib.hid hsm
  have HLAY := Lib.hid hlay
  have HRS : Hid (rs ≤ 16 ∧ 2 ≤ rs) := by have := hsm.2; show _ ∧ _; omega
  have HA : Hid (∀ W, Below w.heap.size w W → Calls Tryz.prog 10 #[] W fun e w' => e = .returned (.bool true) ∧ Below W.heap.size W w') := fun W hb => scawake_any W (Lib.hid (ht.out.below hb hz)) (Nat.lt_of_lt_of_le hz hb.size)
  obtain ⟨n, hn⟩ : ∃ n : Nat, n = 74 + 4 * rs := ⟨_, rfl⟩
  have HN := Lib.hid hn
  have m1 : wrap64 (4 * (rs : Int)) = 4 * (rs : Int) := by have := HRS.out; unfold wrap64; omega
  have m2 : wrap64 (74 + 4 * (rs : Int)) = 74 + 4 * (rs : Int) := by have := HRS.out; unfold wrap64; omega
  have HNEW : Hid (∀ W, Calls Tryz.prog 15 #[.int .i64 (74 + 4 * (rs : Int))] W (NewDev W n)) := fun W => new_dev n _ (by rw [HN.out]; omega) W (by have := HN.out; omega) (by have := HN.out; have := HRS.out; omega)
  unfold NewDev at HNEW
  have HPL : Hid ((Rg.begun (Flash.fresh (List.replicate (n * 64) 0)) n (Gm.spot ⟨3, ver, (rs : Int), 4⟩ 3) (Hd.enc (Gm.spot ⟨3, ver, (rs : Int), 4⟩ 3) ⟨ver, 3, 3, 4, 4, 0⟩)).2 = 0 ∧ Sc.Holds ⟨3, ver, (rs : Int), 4⟩ 3 4 (Hd.enc (Gm.spot ⟨3, ver, (rs : Int), 4⟩ 3) ⟨ver, 3, 3, 4, 4, 0⟩) [] 0 n (Rg.begun (Flash.fresh (List.replicate (n * 64) 0)) n (Gm.spot ⟨3, ver, (rs : Int), 4⟩ 3) (Hd.enc (Gm.spot ⟨3, ver, (rs : Int), 4⟩ 3) ⟨ver, 3, 3, 4, 4, 0⟩)).1) :=
    Sc.holds_begun (HSM.out.ok4 (by decide) (by decide) (by decide) (by decide)) (by show 74 + 3 * (rs : Int) + (rs : Int) ≤ (n : Int); rw [HN.out]; omega) (Hd.enc_length _ _)
  have HWR1 : Hid ((Rg.begun (Flash.fresh (List.replicate (n * 64) 0)) n (Gm.spot ⟨3, ver, (rs : Int), 4⟩ 3) (Hd.enc (Gm.spot ⟨3, ver, (rs : Int), 4⟩ 3) ⟨ver, 3, 3, 4, 4, 0⟩)).1.wr = 1) := (Rg.begun_plain (plain_fresh (List.replicate (n * 64) 0)) (n := n) (by show 0 ≤ 74 + 3 * (rs : Int) ∧ 74 + 3 * (rs : Int) < (n : Int); rw [HN.out]; have := HRS.out; omega) (by rw [Hd.enc_length]; decide)).2.2.1
  have HMAY : Hid (Rg.may ⟨3, ver, (rs : Int), 4⟩ ⟨ver, 3, 3, 4, 4, 0⟩ = 0) := by
    have hv := hsm.1
    have hok : Pk.ok ⟨3, ver, (rs : Int), 4⟩ 3 4 := hsm.ok4 (by decide) (by decide) (by decide) (by decide)
    have h1 : Hd.valid ⟨ver, 3, 3, 4, 4, 0⟩ ∧ ver = (⟨3, ver, (rs : Int), 4⟩ : Sb.L).ver ∧ (3 : Int) = (⟨3, ver, (rs : Int), 4⟩ : Sb.L).id := ⟨⟨hv, (by show (0 : Int) ≤ 3 ∧ (3 : Int) ≤ 15; decide), (by show (1 : Int) ≤ 3 ∧ (3 : Int) ≤ 4294967295; decide), (by show (1 : Int) ≤ 4 ∧ (4 : Int) ≤ 281474976710655; decide), (by show (0 : Int) ≤ 4 ∧ (4 : Int) ≤ 4; decide), (by show (0 : Int) ≤ 0 ∧ (0 : Int) ≤ 549755813888; decide)⟩, rfl, rfl⟩
    show Rg.may _ _ = 0
    unfold Rg.may
    rw [if_pos h1]
    exact Pk.may_zero hok
  clear hsm hlay hn
  have HX0 := Lib.hid (heap_alloc_new w (.cells #[.int .i64 xv, .int .i64 xg, .slice A1 n1 c1, .slice A2 n2 c2, .slice A3 n3 c3, .int .i64 xm] 26))
  have HB0 : Hid (Below w.heap.size w (w.alloc (.cells #[.int .i64 xv, .int .i64 xg, .slice A1 n1 c1, .slice A2 n2 c2, .slice A3 n3 c3, .int .i64 xm] 26))) := (Below.refl _ w).alloc (Nat.le_refl _) _
  go_enter Tryz.func4, Tryz.ntmps4
  go_upto_region 1 with fail
  generalize w.alloc (.cells #[.int .i64 xv, .int .i64 xg, .slice A1 n1 c1, .slice A2 n2 c2, .slice A3 n3 c3, .int .i64 xm] 26) = w0 at *
  obtain ⟨z0, z1, z2, z3, z4, z5⟩ := six_cells HX0.out
  go_quiet (fail)
  have HB1 : Hid (Below w.heap.size w (w0.drewN nq)) := HB0.out.trans ((below_drewN w0 nq).mono HB0.out.size)
  have HX1 : Hid ((w0.drewN nq).heap[w.heap.size]? = _) := HX0.out
  clear z0 z1 z2 z3 z4 z5 HX0 HB0
  generalize w0.drewN nq = w1 at *
  obtain ⟨z0, z1, z2, z3, z4, z5⟩ := six_cells HX1.out
  go_wp2_with fail
  refine (HLAY.out _).mono ?_
  rintro e w2 ⟨rfl, hb2⟩
  have HB2 := Lib.hid (HB1.out.trans (hb2.mono HB1.out.size))
  clear hb2 HLAY HX1 z0 z1 z2 z3 z4 z5 HB1
  go_upto_region 3 with fail
  have HX3 := Lib.hid (heap_alloc_new w2 (.cells #[.int .i64 3, .int .i64 ver, .int .i64 (rs : Int), .int .i64 4] 29))
  have HB3 : Hid (Below w.heap.size w (w2.alloc (.cells #[.int .i64 3, .int .i64 ver, .int .i64 (rs : Int), .int .i64 4] 29))) := HB2.out.alloc HB2.out.size _
  generalize w2.alloc (.cells #[.int .i64 3, .int .i64 ver, .int .i64 (rs : Int), .int .i64 4] 29) = w2a at *
  generalize w2.heap.size = q3 at *
  obtain ⟨z0, z1, z2, z3⟩ := four_cells HX3.out
  go_wp2_with fail
  refine (HNEW.out _).mono ?_
  rintro e w3 ⟨gd, cd, md, rfl, hd3, hnew, hb3⟩
  have HX4 := Lib.hid ((hb3.block q3 (Array.getElem?_eq_some_iff.1 HX3.out).1).trans HX3.out)
  have HB4 := Lib.hid (HB3.out.trans (hb3.mono HB3.out.size))
  have HD3 := Lib.hid hd3
  have HNW := Lib.hid (devnew_on hnew HB3.out.size)
  have HQD : Hid (∀ k, devS gd cd md k → k ≠ q3) := fun k hk e => by
    have h1 := (Array.getElem?_eq_some_iff.1 HX3.out).1
    unfold DevNew at hnew
    unfold devS at hk
    omega
  have HQ3 : Hid (q3 < w3.heap.size) := (Array.getElem?_eq_some_iff.1 HX4.out).1
  clear hb3 hd3 hnew HNEW HB3 HX3 z0 z1 z2 z3 m1 m2
  obtain ⟨z0, z1, z2, z3⟩ := four_cells HX4.out
  go_wp2_with fail
  refine (rgopen_any (W := w) 3 ver (rs : Int) 4 ver 3 3 4 4 0 HB4 HNW HD3 (Lib.hid (ht.out.below HB4.out hz)) (Nat.lt_of_lt_of_le hz HB4.out.size) (by show 0 < _; decide)).mono ?_
  intro e w4 ho
  rcases ho with ⟨h, -⟩ | ⟨-, h, -⟩ | ⟨-, -, r, gp, cl, rfl, hst, hk4, hcl⟩
  · exact absurd HMAY.out h
  · exact absurd HPL.out.1 h
  have HFR4 : Hid (Free cl w4 q3 (.cells #[.int .i64 3, .int .i64 ver, .int .i64 (rs : Int), .int .i64 4] 29 (0, 0))) := ⟨(hk4.block q3 HQ3.out fun e => HQD.out q3 e rfl).trans HX4.out, Decidable.byContradiction fun hc => by
    rcases hcl q3 hc with h | h
    · exact HQD.out q3 h rfl
    · have := HQ3.out; omega⟩
  generalize Rg.begun (Flash.fresh (List.replicate (n * 64) 0)) n (Gm.spot ⟨3, ver, (rs : Int), 4⟩ 3) (Hd.enc (Gm.spot ⟨3, ver, (rs : Int), 4⟩ 3) ⟨ver, 3, 3, 4, 4, 0⟩) = R at *
  obtain ⟨f1, x1⟩ := R
  simp only at hst
  have HST4 : Hid (ScSt w w4.heap.size w4 cl r gd cd md n ver rs gp q3 f1 [] 0 [] (.slice none 0 0) []) :=
    { g := hst, h := HPL.out.2, w := HWR1.out, b := .start, lay := HFR4.out, ql := Nat.lt_of_lt_of_le HQ3.out hk4.size, row := SRow.nil, base := ⟨hst.up.size, Nat.le_refl _⟩, rd := fun f hf => by cases hf }
  clear hst HPL HWR1 z0 z1 z2 z3 HX4 HD3 hk4 hcl HB4 HNW HQ3 HFR4 HMAY HQD HB2
  go_wp2_with fail
  go_loopw [11, 12, 13] (fun v sv iv wr => ∃ (i : Nat) (st : List Nat) (f : Flash) (c : Nat → Nat) (q : Nat) (ds : List (Nat × Rc.Rec)) (l : List Fd) (su : Nat), iv = .int .i64 (i : Int) ∧ i ≤ 12 ∧ sv = .int .i64 (su : Int) ∧ l.length ≤ i ∧ Hid (ScSt w w4.heap.size wr c r gd cd md n ver rs gp q3 f st q ds v l) ∧ Hid (l.map Fd.says = ds.map Sc.say) ∧ Hid (Sc.Sure ver st q su)) (fun _ _ i _ => 12 - (Go.RowKit.intOf i).toNat)
  case atStart => exact ⟨0, [], f1, cl, 0, [], [], 0, rfl, by decide, rfl, Nat.le_refl _, HST4.out, rfl, sure_start _ _⟩
  case round =>
    clear HST4
    obtain ⟨i, st, f, c, q, ds, l, su, rfl, hi12, rfl, hli, HST, HSAY, HSU⟩ := hrel
    rcases loop_ways i n1 12 12 rfl with ⟨t1, t1'⟩ | ⟨t1, t1', t3⟩ | ⟨hin, hi, t1, t1', t3⟩
    · obtain ⟨Aw, cw, rfl, hsw, hfw⟩ := HST.out.fds
      obtain ⟨s0, d0, hs0, hx0, hq0, hd0⟩ := HSU.out
      obtain ⟨m, hm⟩ : ∃ m : Nat, m = min nk 20 := ⟨_, rfl⟩
      have hmn : min (nk : Int) 20 = (m : Int) := by omega
      have hmk : m ≤ nk := by omega
      have hmc : (m : Int) ≤ (ck : Int) := by have := hsk.2.1; omega
      have hmc2 : m ≤ ck := by omega
      have hm0 : (0 : Int) ≤ (m : Int) := by omega
      have hmk2 : (m : Int) ≤ (nk : Int) := by omega
      obtain ⟨mm, hcr, hge⟩ := HST.out.h.crashed HST.out.b (lk.take m) hs0 hx0 hq0
      obtain ⟨dt, hdt⟩ : ∃ dt, ds.take mm = dt := ⟨_, rfl⟩
      rw [hdt] at hcr hge
      have HGE : Hid (su ≤ dt.length) := by show su ≤ _; omega
      have HCR := Lib.hid hcr
      have HDT : Hid (ds.take dt.length = dt) := by
        show _ = _
        rw [← hdt, List.length_take]
        rcases Nat.le_total mm ds.length with h | h
        · rw [Nat.min_eq_left h]
        · rw [Nat.min_eq_right h, List.take_length, List.take_of_length_le h]
      have HDL : Hid (dt.length ≤ ds.length) := by show _ ≤ _; rw [← hdt, List.length_take]; omega
      clear hdt
      have HCC : Hid (∀ W, Below w.heap.size w W → Dev W gd cd md n f → Calls Tryz.prog 20 #[.pointer (some ⟨gd, 0, none⟩), .slice Ak m ck, .slice none 0 0] W (Crashed W n (crashed n f.cur f.old (lk.take m) []))) := fun W hW hd =>
        crash_any Ak none m ck 0 0 (lk.take m) [] (by decide) (show (lk.take m).length = m by rw [List.length_take, hlk.out]; omega) rfl (fun k hk => by
          obtain ⟨ad, e1, e2, e3, e4⟩ := (hbk.out.take m) k hk
          have hc := e4 0 _ rfl
          rw [show k * boolS.m + 0 = k from Nat.mul_one k] at hc
          subst e1
          have hlt := World.block_lt_of_cell? _ _ hc
          rw [add_block] at hlt
          exact ⟨ad, rfl, Nat.lt_of_lt_of_le hlt hW.size, (World.cell?_of_block (hW.block _ (by rw [add_block]; exact hlt))).trans hc⟩) (fun k hk => absurd hk (Nat.not_lt_zero _)) hd
      have HSR : Hid (∀ W g c m', Below w.heap.size w W → Dev W g c m' n (Flash.fresh (crashed n f.cur f.old (lk.take m) [])) → Calls Tryz.prog 12 #[.pointer (some ⟨g, 0, none⟩), .agg #[.int .i64 3, .int .i64 ver, .int .i64 (rs : Int), .int .i64 4], .int .i64 3, .int .i64 4] W (FoundIs W dt)) := fun W g c m' hW hd => by
        have h := scregion_any 3 ver (rs : Int) 4 3 4 W (Lib.hid hd) (ht.out.below hW hz) (Nat.lt_of_lt_of_le hz hW.size)
        rw [seen_plain (show (Flash.fresh (crashed n f.cur f.old (lk.take m) [])).dead = false from rfl)] at h
        have e : (Flash.fresh (crashed n f.cur f.old (lk.take m) [])).cur = crashed n f.cur f.old (lk.take m) [] := rfl
        rw [e, HCR.out] at h
        exact h
      unfold Crashed at HCC
      have HLD : Hid (l.length = ds.length) := by
        have h5 := congrArg List.length HSAY.out
        rwa [List.length_map, List.length_map] at h5
      have HD0 : Hid (Below wr.heap.size wr wr.drew) := below_drewN wr 1
      have HSTW : Hid (∀ W, Below wr.heap.size wr W → ScSt w w4.heap.size W c r gd cd md n ver rs gp q3 f st q ds (.slice Aw l.length cw) l) := fun W hW => HST.out.new hW
      have hsw2 : l.length ≤ cw := hsw.2.1
      clear hsw hfw hs0 hx0 hq0 hd0 hcr hge hm HSU HST
      go_wp2_with fail
      refine wp_region_held_drew (S := fun W' => W'.cell? ⟨q3, 0, none⟩ = some (.int .i64 3) ∧ W'.cell? ⟨q3, 1, none⟩ = some (.int .i64 ver) ∧ W'.cell? ⟨q3, 2, none⟩ = some (.int .i64 (rs : Int)) ∧ W'.cell? ⟨q3, 3, none⟩ = some (.int .i64 4)) (by kernel_rfl) (four_cells (HSTW.out _ HD0.out).lay.1) (fun hH => ?_)
      change wpAnyH _ _ _ _ _ 10 #[false, false, false, false, false, false, false, false, false, false] _ _
      refine held_take (i := 0) (v := ?_) (d := some 92) rfl rfl (by kernel_rfl) (by kernel_rfl) (by kernel_rfl) (fun _ _ _ h => h) hH ⟨?_, fun w hSw => ?_⟩ ?_
      rotate_left 1
      · rfl
      · (go_simp; all_goals with_reducible rfl)
      simp only [Act.put, List.setIfInBounds_toArray, List.set_cons_zero, List.set_cons_succ]
      refine held_take (i := 1) (v := ?_) (d := some 93) rfl rfl (by kernel_rfl) (by kernel_rfl) (by kernel_rfl) (fun _ _ _ h => h) hH ⟨?_, fun w hSw => ?_⟩ ?_
      rotate_left 1
      · rfl
      · (go_simp; all_goals with_reducible rfl)
      simp only [Act.put, List.setIfInBounds_toArray, List.set_cons_zero, List.set_cons_succ]
      refine held_take (i := 2) (v := ?_) (d := some 94) rfl rfl (by kernel_rfl) (by kernel_rfl) (by kernel_rfl) (fun _ _ _ h => h) hH ⟨?_, fun w hSw => ?_⟩ ?_
      rotate_left 1
      · rfl
      · (go_simp; all_goals with_reducible rfl)
      simp only [Act.put, List.setIfInBounds_toArray, List.set_cons_zero, List.set_cons_succ]
      refine held_take (i := 3) (v := ?_) (d := some 95) rfl rfl (by kernel_rfl) (by kernel_rfl) (by kernel_rfl) (fun _ _ _ h => h) hH ⟨?_, fun w hSw => ?_⟩ ?_
      rotate_left 1
      · rfl
      · (go_simp; all_goals with_reducible rfl)
      simp only [Act.put, List.setIfInBounds_toArray, List.set_cons_zero, List.set_cons_succ]
      refine held_take (i := 4) (v := ?_) (d := some 96) rfl rfl (by kernel_rfl) (by kernel_rfl) (by kernel_rfl) (fun _ _ _ h => h) hH ⟨?_, fun w hSw => ?_⟩ ?_
      rotate_left 1
      · rfl
      · (go_simp; all_goals with_reducible rfl)
      simp only [Act.put, List.setIfInBounds_toArray, List.set_cons_zero, List.set_cons_succ]
      refine held_take (i := 5) (v := ?_) (d := some 97) rfl rfl (by kernel_rfl) (by kernel_rfl) (by kernel_rfl) (fun _ _ _ h => h) hH ⟨?_, fun w hSw => ?_⟩ ?_
      rotate_left 1
      · rfl
      · (go_simp; all_goals with_reducible rfl)
      simp only [Act.put, List.setIfInBounds_toArray, List.set_cons_zero, List.set_cons_succ]
      refine held_take (i := 7) (v := ?_) (d := some 99) rfl rfl (by kernel_rfl) (by kernel_rfl) (by kernel_rfl) (fun _ _ _ h => h) hH ⟨?_, fun w hSw => ?_⟩ ?_
      rotate_left 1
      · rfl
      · obtain ⟨x0, x1, x2, x3⟩ := hSw
        (go_simp; all_goals with_reducible rfl)
      simp only [Act.put, List.setIfInBounds_toArray, List.set_cons_zero, List.set_cons_succ]
      refine held_step (i := 6) rfl (by kernel_rfl) ?_ (fun K hK => ?_)
      · rfl
      clear hH
      go_simp
      refine (HCC.out _ (HSTW.out _ HD0.out).g.up (HSTW.out _ HD0.out).g.d).mono ?_
      rintro e w5 ⟨g5, c5, m5, rfl, hd5, -, -, -, hb5⟩
      have HB5 := Lib.hid (HD0.out.trans (hb5.mono HD0.out.size))
      have HD5 := Lib.hid hd5
      clear hb5 hd5
      have hH := four_cells (HSTW.out _ HB5.out).lay.1
      refine hK _ _ hH ?_
      clear hK K
      simp only [List.setIfInBounds_toArray, List.set_cons_zero, List.set_cons_succ]
      refine held_step (i := 8) rfl (by kernel_rfl) ?_ (fun K hK => ?_)
      · rfl
      clear hH
      go_simp
      refine (HSR.out _ g5 c5 m5 (HSTW.out _ HB5.out).g.up HD5.out).mono ?_
      intro e w6 hf6
      obtain ⟨A6, c6, l6, rfl, hs6, hl6, hfd6, hsy6, hb6⟩ := found_len hf6
      have HB6 := Lib.hid (HB5.out.trans (hb6.mono HB5.out.size))
      have HF6 := Lib.hid (And.intro hl6 (And.intro hfd6 hsy6))
      clear hb6 hl6 hfd6 hsy6 hf6 hs6
      have hH := four_cells (HSTW.out _ HB6.out).lay.1
      refine hK _ _ hH ?_
      clear hK K
      simp only [List.setIfInBounds_toArray, List.set_cons_zero, List.set_cons_succ]
      refine held_take (i := 9) (v := ?_) (d := some 18) rfl rfl (by kernel_rfl) (by kernel_rfl) (by kernel_rfl) (fun _ _ _ h => h) hH ⟨?_, fun w hSw => ?_⟩ ?_
      rotate_left 1
      · rfl
      · (go_simp; all_goals with_reducible rfl)
      simp only [Act.put, List.setIfInBounds_toArray, List.set_cons_zero, List.set_cons_succ]
      refine wpAnyH_done (by kernel_rfl) ?_ _
      have HST6 := Lib.hid (HSTW.out _ HB6.out)
      obtain ⟨Aw2, cw2, hvw, -, hfw⟩ := HST6.out.fds
      injection hvw with hv1 _ hv3
      subst hv1 hv3
      have HEQ : Hid (∀ W, Below w6.heap.size w6 W → Calls Tryz.prog 11 #[.slice A6 dt.length c6, .slice Aw dt.length cw] W fun e w' => e = .returned (.bool true) ∧ Below W.heap.size W w') := fun W hW => by
        have hlen : (l.take dt.length).length = dt.length := by rw [List.length_take]; have := HDL.out; have := HLD.out; omega
        have h := refeqfd_any A6 Aw W.heap.size W.heap.size dt.length dt.length c6 cw l6 (l.take dt.length) W (Nat.le_refl _) (Nat.le_refl _) HF6.out.1 hlen (by have := HDL.out; have := HLD.out; omega) ⟨(HF6.out.2.1.below hW (Nat.le_refl _)).1.up hW.size, fun x hx => ⟨⟨⟨((HF6.out.2.1.2 x hx).1).1.1, ((HF6.out.2.1.2 x hx).1).1.2.1, (((HF6.out.2.1.2 x hx).1).1.2.2.below hW (Nat.le_refl _)).more hW.size⟩, ⟨((HF6.out.2.1.2 x hx).1).2.1, ((HF6.out.2.1.2 x hx).1).2.2.1, (((HF6.out.2.1.2 x hx).1).2.2.2.below hW (Nat.le_refl _)).more hW.size⟩⟩, (HF6.out.2.1.2 x hx).2⟩⟩ (by
          have h2 := (hfw.below hW (Nat.le_refl _)).take dt.length
          exact ⟨h2.1.up hW.size, fun x hx => ⟨⟨⟨(h2.2 x hx).1.1.1, (h2.2 x hx).1.1.2.1, ((h2.2 x hx).1.1.2.2).more hW.size⟩, ⟨(h2.2 x hx).1.2.1, (h2.2 x hx).1.2.2.1, ((h2.2 x hx).1.2.2.2).more hW.size⟩⟩, (h2.2 x hx).2⟩⟩)
        have e : l6.map Fd.says = (l.take dt.length).map Fd.says := by
          rw [HF6.out.2.2, List.map_take, HSAY.out, ← List.map_take, HDT.out]
        rw [decide_eq_true e] at h
        exact h
      have HNL := Lib.hid HLD.out
      have HDL2 := Lib.hid HDL.out
      clear hfw HF6 HCC HSR HCR HDT HSTW hmn hmk hmc hmc2 hm0 hmk2 HD0 HB5 HD5
      generalize dt.length = ng at *
      have hng : ng ≤ l.length := by have := HNL.out; have := HDL2.out; omega
      generalize l.length = nl at *
      have g1 : decide ((su : Int) ≤ (ng : Int)) = true := by have := HGE.out; simp only [decide_eq_true_eq]; omega
      have g2 : decide ((ng : Int) ≤ (nl : Int)) = true := by simp only [decide_eq_true_eq]; omega
      have g3 : min (ng : Int) (nl : Int) = (ng : Int) := by omega
      have g4 : (ng : Int) ≤ (cw : Int) := by omega
      have g5 : ng ≤ cw := by omega
      have g6 : (ng : Int) ≤ (nl : Int) := by omega
      go_wp2_with fail
      refine (HA.out _ HST6.out.g.up).mono ?_
      rintro e w7 ⟨rfl, hb7⟩
      have HC := Lib.hid (HEQ.out w7 hb7)
      have HB7 := Lib.hid (HST6.out.g.up.trans (hb7.mono HST6.out.g.up.size))
      clear hb7 HEQ
      go_wp2_with fail
      refine HC.out.mono ?_
      rintro e w8 ⟨rfl, hb8⟩
      have HZ := Lib.hid (HB7.out.trans (hb8.mono HB7.out.size))
      go_wp2
      go_ret
      exact ⟨rfl, HZ.out⟩
    · obtain ⟨Aw, cw, rfl, hsw, hfw⟩ := HST.out.fds
      obtain ⟨s0, d0, hs0, hx0, hq0, hd0⟩ := HSU.out
      obtain ⟨m, hm⟩ : ∃ m : Nat, m = min nk 20 := ⟨_, rfl⟩
      have hmn : min (nk : Int) 20 = (m : Int) := by omega
      have hmk : m ≤ nk := by omega
      have hmc : (m : Int) ≤ (ck : Int) := by have := hsk.2.1; omega
      have hmc2 : m ≤ ck := by omega
      have hm0 : (0 : Int) ≤ (m : Int) := by omega
      have hmk2 : (m : Int) ≤ (nk : Int) := by omega
      obtain ⟨mm, hcr, hge⟩ := HST.out.h.crashed HST.out.b (lk.take m) hs0 hx0 hq0
      obtain ⟨dt, hdt⟩ : ∃ dt, ds.take mm = dt := ⟨_, rfl⟩
      rw [hdt] at hcr hge
      have HGE : Hid (su ≤ dt.length) := by show su ≤ _; omega
      have HCR := Lib.hid hcr
      have HDT : Hid (ds.take dt.length = dt) := by
        show _ = _
        rw [← hdt, List.length_take]
        rcases Nat.le_total mm ds.length with h | h
        · rw [Nat.min_eq_left h]
        · rw [Nat.min_eq_right h, List.take_length, List.take_of_length_le h]
      have HDL : Hid (dt.length ≤ ds.length) := by show _ ≤ _; rw [← hdt, List.length_take]; omega
      clear hdt
      have HCC : Hid (∀ W, Below w.heap.size w W → Dev W gd cd md n f → Calls Tryz.prog 20 #[.pointer (some ⟨gd, 0, none⟩), .slice Ak m ck, .slice none 0 0] W (Crashed W n (crashed n f.cur f.old (lk.take m) []))) := fun W hW hd =>
        crash_any Ak none m ck 0 0 (lk.take m) [] (by decide) (show (lk.take m).length = m by rw [List.length_take, hlk.out]; omega) rfl (fun k hk => by
          obtain ⟨ad, e1, e2, e3, e4⟩ := (hbk.out.take m) k hk
          have hc := e4 0 _ rfl
          rw [show k * boolS.m + 0 = k from Nat.mul_one k] at hc
          subst e1
          have hlt := World.block_lt_of_cell? _ _ hc
          rw [add_block] at hlt
          exact ⟨ad, rfl, Nat.lt_of_lt_of_le hlt hW.size, (World.cell?_of_block (hW.block _ (by rw [add_block]; exact hlt))).trans hc⟩) (fun k hk => absurd hk (Nat.not_lt_zero _)) hd
      have HSR : Hid (∀ W g c m', Below w.heap.size w W → Dev W g c m' n (Flash.fresh (crashed n f.cur f.old (lk.take m) [])) → Calls Tryz.prog 12 #[.pointer (some ⟨g, 0, none⟩), .agg #[.int .i64 3, .int .i64 ver, .int .i64 (rs : Int), .int .i64 4], .int .i64 3, .int .i64 4] W (FoundIs W dt)) := fun W g c m' hW hd => by
        have h := scregion_any 3 ver (rs : Int) 4 3 4 W (Lib.hid hd) (ht.out.below hW hz) (Nat.lt_of_lt_of_le hz hW.size)
        rw [seen_plain (show (Flash.fresh (crashed n f.cur f.old (lk.take m) [])).dead = false from rfl)] at h
        have e : (Flash.fresh (crashed n f.cur f.old (lk.take m) [])).cur = crashed n f.cur f.old (lk.take m) [] := rfl
        rw [e, HCR.out] at h
        exact h
      unfold Crashed at HCC
      have HLD : Hid (l.length = ds.length) := by
        have h5 := congrArg List.length HSAY.out
        rwa [List.length_map, List.length_map] at h5
      have HD0 : Hid (Below wr.heap.size wr wr.drew) := below_drewN wr 1
      have HSTW : Hid (∀ W, Below wr.heap.size wr W → ScSt w w4.heap.size W c r gd cd md n ver rs gp q3 f st q ds (.slice Aw l.length cw) l) := fun W hW => HST.out.new hW
      have hsw2 : l.length ≤ cw := hsw.2.1
      clear hsw hfw hs0 hx0 hq0 hd0 hcr hge hm HSU HST
      go_wp2_with fail
      refine wp_region_held_drew (S := fun W' => W'.cell? ⟨q3, 0, none⟩ = some (.int .i64 3) ∧ W'.cell? ⟨q3, 1, none⟩ = some (.int .i64 ver) ∧ W'.cell? ⟨q3, 2, none⟩ = some (.int .i64 (rs : Int)) ∧ W'.cell? ⟨q3, 3, none⟩ = some (.int .i64 4)) (by kernel_rfl) (four_cells (HSTW.out _ HD0.out).lay.1) (fun hH => ?_)
      change wpAnyH _ _ _ _ _ 10 #[false, false, false, false, false, false, false, false, false, false] _ _
      refine held_take (i := 0) (v := ?_) (d := some 92) rfl rfl (by kernel_rfl) (by kernel_rfl) (by kernel_rfl) (fun _ _ _ h => h) hH ⟨?_, fun w hSw => ?_⟩ ?_
      rotate_left 1
      · rfl
      · (go_simp; all_goals with_reducible rfl)
      simp only [Act.put, List.setIfInBounds_toArray, List.set_cons_zero, List.set_cons_succ]
      refine held_take (i := 1) (v := ?_) (d := some 93) rfl rfl (by kernel_rfl) (by kernel_rfl) (by kernel_rfl) (fun _ _ _ h => h) hH ⟨?_, fun w hSw => ?_⟩ ?_
      rotate_left 1
      · rfl
      · (go_simp; all_goals with_reducible rfl)
      simp only [Act.put, List.setIfInBounds_toArray, List.set_cons_zero, List.set_cons_succ]
      refine held_take (i := 2) (v := ?_) (d := some 94) rfl rfl (by kernel_rfl) (by kernel_rfl) (by kernel_rfl) (fun _ _ _ h => h) hH ⟨?_, fun w hSw => ?_⟩ ?_
      rotate_left 1
      · rfl
      · (go_simp; all_goals with_reducible rfl)
      simp only [Act.put, List.setIfInBounds_toArray, List.set_cons_zero, List.set_cons_succ]
      refine held_take (i := 3) (v := ?_) (d := some 95) rfl rfl (by kernel_rfl) (by kernel_rfl) (by kernel_rfl) (fun _ _ _ h => h) hH ⟨?_, fun w hSw => ?_⟩ ?_
      rotate_left 1
      · rfl
      · (go_simp; all_goals with_reducible rfl)
      simp only [Act.put, List.setIfInBounds_toArray, List.set_cons_zero, List.set_cons_succ]
      refine held_take (i := 4) (v := ?_) (d := some 96) rfl rfl (by kernel_rfl) (by kernel_rfl) (by kernel_rfl) (fun _ _ _ h => h) hH ⟨?_, fun w hSw => ?_⟩ ?_
      rotate_left 1
      · rfl
      · (go_simp; all_goals with_reducible rfl)
      simp only [Act.put, List.setIfInBounds_toArray, List.set_cons_zero, List.set_cons_succ]
      refine held_take (i := 5) (v := ?_) (d := some 97) rfl rfl (by kernel_rfl) (by kernel_rfl) (by kernel_rfl) (fun _ _ _ h => h) hH ⟨?_, fun w hSw => ?_⟩ ?_
      rotate_left 1
      · rfl
      · (go_simp; all_goals with_reducible rfl)
      simp only [Act.put, List.setIfInBounds_toArray, List.set_cons_zero, List.set_cons_succ]
      refine held_take (i := 7) (v := ?_) (d := some 99) rfl rfl (by kernel_rfl) (by kernel_rfl) (by kernel_rfl) (fun _ _ _ h => h) hH ⟨?_, fun w hSw => ?_⟩ ?_
      rotate_left 1
      · rfl
      · obtain ⟨x0, x1, x2, x3⟩ := hSw
        (go_simp; all_goals with_reducible rfl)
      simp only [Act.put, List.setIfInBounds_toArray, List.set_cons_zero, List.set_cons_succ]
      refine held_step (i := 6) rfl (by kernel_rfl) ?_ (fun K hK => ?_)
      · rfl
      clear hH
      go_simp
      refine (HCC.out _ (HSTW.out _ HD0.out).g.up (HSTW.out _ HD0.out).g.d).mono ?_
      rintro e w5 ⟨g5, c5, m5, rfl, hd5, -, -, -, hb5⟩
      have HB5 := Lib.hid (HD0.out.trans (hb5.mono HD0.out.size))
      have HD5 := Lib.hid hd5
      clear hb5 hd5
      have hH := four_cells (HSTW.out _ HB5.out).lay.1
      refine hK _ _ hH ?_
      clear hK K
      simp only [List.setIfInBounds_toArray, List.set_cons_zero, List.set_cons_succ]
      refine held_step (i := 8) rfl (by kernel_rfl) ?_ (fun K hK => ?_)
      · rfl
      clear hH
      go_simp
      refine (HSR.out _ g5 c5 m5 (HSTW.out _ HB5.out).g.up HD5.out).mono ?_
      intro e w6 hf6
      obtain ⟨A6, c6, l6, rfl, hs6, hl6, hfd6, hsy6, hb6⟩ := found_len hf6
      have HB6 := Lib.hid (HB5.out.trans (hb6.mono HB5.out.size))
      have HF6 := Lib.hid (And.intro hl6 (And.intro hfd6 hsy6))
      clear hb6 hl6 hfd6 hsy6 hf6 hs6
      have hH := four_cells (HSTW.out _ HB6.out).lay.1
      refine hK _ _ hH ?_
      clear hK K
      simp only [List.setIfInBounds_toArray, List.set_cons_zero, List.set_cons_succ]
      refine held_take (i := 9) (v := ?_) (d := some 18) rfl rfl (by kernel_rfl) (by kernel_rfl) (by kernel_rfl) (fun _ _ _ h => h) hH ⟨?_, fun w hSw => ?_⟩ ?_
      rotate_left 1
      · rfl
      · (go_simp; all_goals with_reducible rfl)
      simp only [Act.put, List.setIfInBounds_toArray, List.set_cons_zero, List.set_cons_succ]
      refine wpAnyH_done (by kernel_rfl) ?_ _
      have HST6 := Lib.hid (HSTW.out _ HB6.out)
      obtain ⟨Aw2, cw2, hvw, -, hfw⟩ := HST6.out.fds
      injection hvw with hv1 _ hv3
      subst hv1 hv3
      have HEQ : Hid (∀ W, Below w6.heap.size w6 W → Calls Tryz.prog 11 #[.slice A6 dt.length c6, .slice Aw dt.length cw] W fun e w' => e = .returned (.bool true) ∧ Below W.heap.size W w') := fun W hW => by
        have hlen : (l.take dt.length).length = dt.length := by rw [List.length_take]; have := HDL.out; have := HLD.out; omega
        have h := refeqfd_any A6 Aw W.heap.size W.heap.size dt.length dt.length c6 cw l6 (l.take dt.length) W (Nat.le_refl _) (Nat.le_refl _) HF6.out.1 hlen (by have := HDL.out; have := HLD.out; omega) ⟨(HF6.out.2.1.below hW (Nat.le_refl _)).1.up hW.size, fun x hx => ⟨⟨⟨((HF6.out.2.1.2 x hx).1).1.1, ((HF6.out.2.1.2 x hx).1).1.2.1, (((HF6.out.2.1.2 x hx).1).1.2.2.below hW (Nat.le_refl _)).more hW.size⟩, ⟨((HF6.out.2.1.2 x hx).1).2.1, ((HF6.out.2.1.2 x hx).1).2.2.1, (((HF6.out.2.1.2 x hx).1).2.2.2.below hW (Nat.le_refl _)).more hW.size⟩⟩, (HF6.out.2.1.2 x hx).2⟩⟩ (by
          have h2 := (hfw.below hW (Nat.le_refl _)).take dt.length
          exact ⟨h2.1.up hW.size, fun x hx => ⟨⟨⟨(h2.2 x hx).1.1.1, (h2.2 x hx).1.1.2.1, ((h2.2 x hx).1.1.2.2).more hW.size⟩, ⟨(h2.2 x hx).1.2.1, (h2.2 x hx).1.2.2.1, ((h2.2 x hx).1.2.2.2).more hW.size⟩⟩, (h2.2 x hx).2⟩⟩)
        have e : l6.map Fd.says = (l.take dt.length).map Fd.says := by
          rw [HF6.out.2.2, List.map_take, HSAY.out, ← List.map_take, HDT.out]
        rw [decide_eq_true e] at h
        exact h
      have HNL := Lib.hid HLD.out
      have HDL2 := Lib.hid HDL.out
      clear hfw HF6 HCC HSR HCR HDT HSTW hmn hmk hmc hmc2 hm0 hmk2 HD0 HB5 HD5
      generalize dt.length = ng at *
      have hng : ng ≤ l.length := by have := HNL.out; have := HDL2.out; omega
      generalize l.length = nl at *
      have g1 : decide ((su : Int) ≤ (ng : Int)) = true := by have := HGE.out; simp only [decide_eq_true_eq]; omega
      have g2 : decide ((ng : Int) ≤ (nl : Int)) = true := by simp only [decide_eq_true_eq]; omega
      have g3 : min (ng : Int) (nl : Int) = (ng : Int) := by omega
      have g4 : (ng : Int) ≤ (cw : Int) := by omega
      have g5 : ng ≤ cw := by omega
      have g6 : (ng : Int) ≤ (nl : Int) := by omega
      go_wp2_with fail
      refine (HA.out _ HST6.out.g.up).mono ?_
      rintro e w7 ⟨rfl, hb7⟩
      have HC := Lib.hid (HEQ.out w7 hb7)
      have HB7 := Lib.hid (HST6.out.g.up.trans (hb7.mono HST6.out.g.up.size))
      clear hb7 HEQ
      go_wp2_with fail
      refine HC.out.mono ?_
      rintro e w8 ⟨rfl, hb8⟩
      have HZ := Lib.hid (HB7.out.trans (hb8.mono HB7.out.size))
      go_wp2
      go_ret
      exact ⟨rfl, HZ.out⟩
    · obtain ⟨ad, hA⟩ := hb1.out.1.some (k := i) (by rw [hl1.out]; exact hin)
      subst hA
      have hca := hb1.out.1.below HST.out.g.up (Nat.le_refl _)
      obtain ⟨o, ho⟩ : ∃ o, l1.getD i Rd0 = o := ⟨_, rfl⟩
      obtain ⟨e0, e1, e2, e3⟩ := recs_at hca i (by rw [hl1.out]; exact hin) o ho
      have HR0 := Lib.hid (hb1.out.2 i (by rw [hl1.out]; exact hin))
      rw [ho] at HR0
      have hib : (i : Int) < 12 := by omega
      have hib2 : (i : Int) < (n1 : Int) := by omega
      clear hca ho
      go_wp2_with fail
      refine (shortrec_any o _ ⟨HR0.out.1.1, HR0.out.2.1⟩).mono ?_
      rintro e w5 ⟨rfl, hb5⟩
      have HST5 := Lib.hid (HST.out.new hb5)
      have HRS5 := Lib.hid (Rd.here.short HR0.out)
      have HSMA : Hid (o.short.n1 ≤ 140737488355328 ∧ o.short.n2 ≤ 140737488355328) := by show min _ _ ≤ _ ∧ min _ _ ≤ _; omega
      clear hb5 e0 e1 e2 e3 HR0 HST
      generalize o.short = s at *
      go_upto_region 13 with fail
      have HBA : Hid (Below w5.heap.size w5 (w5.alloc (.cells #[.int .i64 s.kd, .slice s.A1 s.n1 s.c1, .slice s.A2 s.n2 s.c2, .int .i64 s.x] 52))) := (Below.refl _ _).alloc (Nat.le_refl _) _
      have HST6 := Lib.hid (HST5.out.new HBA.out)
      have HFR6 := Lib.hid (Free.made HST5.out.g.colr (.cells #[.int .i64 s.kd, .slice s.A1 s.n1 s.c1, .slice s.A2 s.n2 s.c2, .int .i64 s.x] 52))
      clear HST5 HBA
      generalize w5.alloc (.cells #[.int .i64 s.kd, .slice s.A1 s.n1 s.c1, .slice s.A2 s.n2 s.c2, .int .i64 s.x] 52) = w6 at *
      generalize w5.heap.size = q6 at *
      obtain ⟨y0, y1, y2, y3⟩ := four_cells HFR6.out.1
      have HRI : Hid (RecIn w6 w.heap.size s.A1 s.A2 s.n1 s.c1 s.n2 s.c2 s.key s.val) := Rd.here.below HRS5.out HST6.out.g.up (Nat.le_refl _)
      go_wp2_with fail
      refine (rgappend_any s.kd s.x s.key s.val s.A1 s.A2 w.heap.size s.n1 s.c1 s.n2 s.c2 HST6.out.g.up.size HRI (Lib.hid HST6.out.g) HST6.out.fit ht hz HST6.out.few).mono ?_
      rintro e w7 ⟨rfl, c7, hst7, hw7⟩
      have HPT := Lib.hid (HST6.out.put (⟨s.kd, s.key, s.val, s.x⟩ : Rc.Rec) (Rd.here.lt HRS5.out).1 (Rd.here.lt HRS5.out).2 hw7 hst7)
      have HFR7 := Lib.hid (HFR6.out.went hw7)
      rw [HPT.out.1]
      have HST7 := Lib.hid HPT.out.2
      have HMO : Hid (∃ x, Pk.put ⟨3, ver, (rs : Int), 4⟩ 4 st (⟨s.kd, s.key, s.val, s.x⟩ : Rc.Rec) = st ++ x) := Pk.put_more _ _ _ _
      clear hst7 hw7 HPT HRI HFR6 y0 y1 y2 y3
      generalize (Rg.after ⟨3, ver, (rs : Int), 4⟩ 3 4 f n st (Pk.put ⟨3, ver, (rs : Int), 4⟩ 4 st (⟨s.kd, s.key, s.val, s.x⟩ : Rc.Rec))).1 = f7 at *
      have HPOS : Hid (∀ x, Rg.pos 0 0 x = x) := fun x => if_pos ⟨rfl, rfl⟩
      by_cases herr : Pk.err ⟨3, ver, (rs : Int), 4⟩ st (⟨s.kd, s.key, s.val, s.x⟩ : Rc.Rec) = 0
      · have HPU : Hid (Sc.puts ⟨3, ver, (rs : Int), 4⟩ st (⟨s.kd, s.key, s.val, s.x⟩ : Rc.Rec) ds = ds ++ [(st.length, (⟨s.kd, s.key, s.val, s.x⟩ : Rc.Rec))]) := if_pos herr
        rw [HPU.out] at HST7
        rw [herr, HPOS.out, HPOS.out, show Rg.worst 0 0 = 0 from rfl]
        have HSAY7 : Hid ((l ++ [(⟨((st.length : Nat) : Int), ((Rc.len (⟨s.kd, s.key, s.val, s.x⟩ : Rc.Rec) : Nat) : Int), s⟩ : Fd)]).map Fd.says = (ds ++ [(st.length, (⟨s.kd, s.key, s.val, s.x⟩ : Rc.Rec))]).map Sc.say) := by
          show _ = _
          rw [List.map_append, List.map_append, HSAY.out]; rfl
        clear herr HPU HPOS HST6
        generalize Pk.put ⟨3, ver, (rs : Int), 4⟩ 4 st (⟨s.kd, s.key, s.val, s.x⟩ : Rc.Rec) = st7 at *
        have HBF : Hid (Below w7.heap.size w7 (w7.alloc (.cells #[.int .i64 ((st.length : Nat) : Int), .int .i64 ((Rc.len (⟨s.kd, s.key, s.val, s.x⟩ : Rc.Rec) : Nat) : Int), .int .i64 s.kd, .slice s.A1 s.n1 s.c1, .slice s.A2 s.n2 s.c2, .int .i64 s.x] 57))) := (Below.refl _ _).alloc (Nat.le_refl _) _
        have HX8 := Lib.hid (heap_alloc_new w7 (.cells #[.int .i64 ((st.length : Nat) : Int), .int .i64 ((Rc.len (⟨s.kd, s.key, s.val, s.x⟩ : Rc.Rec) : Nat) : Int), .int .i64 s.kd, .slice s.A1 s.n1 s.c1, .slice s.A2 s.n2 s.c2, .int .i64 s.x] 57))
        have HST8 := Lib.hid (HST7.out.new HBF.out)
        have hl0 : l.length ≤ 1000000 := by omega
        obtain ⟨y0, y1, y2, y3⟩ := four_cells HFR7.out.1
        clear HFR7 HBF
        rcases take_ways i n2 l2 with ⟨f0, f2, f2'⟩ | ⟨hin2, f2, f4 | f4⟩
        · go_wp2_with (at_builtin; refine append_fd rfl (.tmp 70) (.tmp 75) rfl u11 l rfl HST8.out.row w7.heap.size 1 (⟨((st.length : Nat) : Int), ((Rc.len (⟨s.kd, s.key, s.val, s.x⟩ : Rc.Rec) : Nat) : Int), s⟩ : Fd) rfl HX8.out hl0 ?_; intro v9 w9 hr9 hk9 _; have HST9 := Lib.hid (HST8.out.found hr9 hk9 ⟨HRS5.out, HSMA.out⟩); clear hr9 hk9 HST7 HST8 HX8 y0 y1 y2 y3 HRS5 HSMA; obtain ⟨Aw, cw, hvw, -⟩ := HST9.out.fds; obtain ⟨nl, hnl⟩ : ∃ nl, (l ++ [(⟨((st.length : Nat) : Int), ((Rc.len (⟨s.kd, s.key, s.val, s.x⟩ : Rc.Rec) : Nat) : Int), s⟩ : Fd)]).length = nl := ⟨_, rfl⟩; rw [hnl] at hvw; have HNL := Lib.hid hnl; clear hnl; subst hvw)
          have hli7 : (l ++ [(⟨((st.length : Nat) : Int), ((Rc.len (⟨s.kd, s.key, s.val, s.x⟩ : Rc.Rec) : Nat) : Int), s⟩ : Fd)]).length ≤ i + 1 := by rw [List.length_append, List.length_singleton]; omega
          generalize l ++ [(⟨((st.length : Nat) : Int), ((Rc.len (⟨s.kd, s.key, s.val, s.x⟩ : Rc.Rec) : Nat) : Int), s⟩ : Fd)] = l7 at *
          generalize ds ++ [(st.length, (⟨s.kd, s.key, s.val, s.x⟩ : Rc.Rec))] = ds7 at *
          go_roundw
          case rel => exact ⟨i + 1, st7, f7, c7, q, ds7, l7, su, by go_num, by omega, rfl, hli7, HST9.out, HSAY7.out, (HSU.out.more HMO.out)⟩
          case measure => simp [Go.RowKit.intOf]; omega
        · obtain ⟨a2, rfl⟩ := hb2.out.some (k := i) (by rw [hl2.out]; exact hin2)
          skip
          go_wp2_with (at_builtin; refine append_fd rfl (.tmp 70) (.tmp 75) rfl u11 l rfl HST8.out.row w7.heap.size 1 (⟨((st.length : Nat) : Int), ((Rc.len (⟨s.kd, s.key, s.val, s.x⟩ : Rc.Rec) : Nat) : Int), s⟩ : Fd) rfl HX8.out hl0 ?_; intro v9 w9 hr9 hk9 _; have HST9 := Lib.hid (HST8.out.found hr9 hk9 ⟨HRS5.out, HSMA.out⟩); clear hr9 hk9 HST7 HST8 HX8 y0 y1 y2 y3 HRS5 HSMA; obtain ⟨Aw, cw, hvw, -⟩ := HST9.out.fds; obtain ⟨nl, hnl⟩ : ∃ nl, (l ++ [(⟨((st.length : Nat) : Int), ((Rc.len (⟨s.kd, s.key, s.val, s.x⟩ : Rc.Rec) : Nat) : Int), s⟩ : Fd)]).length = nl := ⟨_, rfl⟩; rw [hnl] at hvw; have HNL := Lib.hid hnl; clear hnl; subst hvw; have c0 := bools_at (hb2.out.below HST9.out.g.up (Nat.le_refl _)) i (by rw [hl2.out]; exact hin2); rw [f4] at c0)
          have hli7 : (l ++ [(⟨((st.length : Nat) : Int), ((Rc.len (⟨s.kd, s.key, s.val, s.x⟩ : Rc.Rec) : Nat) : Int), s⟩ : Fd)]).length ≤ i + 1 := by rw [List.length_append, List.length_singleton]; omega
          generalize l ++ [(⟨((st.length : Nat) : Int), ((Rc.len (⟨s.kd, s.key, s.val, s.x⟩ : Rc.Rec) : Nat) : Int), s⟩ : Fd)] = l7 at *
          generalize ds ++ [(st.length, (⟨s.kd, s.key, s.val, s.x⟩ : Rc.Rec))] = ds7 at *
          go_roundw
          case rel => exact ⟨i + 1, st7, f7, c7, q, ds7, l7, su, by go_num, by omega, rfl, hli7, HST9.out, HSAY7.out, (HSU.out.more HMO.out)⟩
          case measure => simp [Go.RowKit.intOf]; omega
        · obtain ⟨a2, rfl⟩ := hb2.out.some (k := i) (by rw [hl2.out]; exact hin2)
          skip
          go_wp2_with (at_builtin; refine append_fd rfl (.tmp 70) (.tmp 75) rfl u11 l rfl HST8.out.row w7.heap.size 1 (⟨((st.length : Nat) : Int), ((Rc.len (⟨s.kd, s.key, s.val, s.x⟩ : Rc.Rec) : Nat) : Int), s⟩ : Fd) rfl HX8.out hl0 ?_; intro v9 w9 hr9 hk9 _; have HST9 := Lib.hid (HST8.out.found hr9 hk9 ⟨HRS5.out, HSMA.out⟩); clear hr9 hk9 HST7 HST8 HX8 y0 y1 y2 y3 HRS5 HSMA; obtain ⟨Aw, cw, hvw, -⟩ := HST9.out.fds; obtain ⟨nl, hnl⟩ : ∃ nl, (l ++ [(⟨((st.length : Nat) : Int), ((Rc.len (⟨s.kd, s.key, s.val, s.x⟩ : Rc.Rec) : Nat) : Int), s⟩ : Fd)]).length = nl := ⟨_, rfl⟩; rw [hnl] at hvw; have HNL := Lib.hid hnl; clear hnl; subst hvw; have c0 := bools_at (hb2.out.below HST9.out.g.up (Nat.le_refl _)) i (by rw [hl2.out]; exact hin2); rw [f4] at c0)
          have hli7 : (l ++ [(⟨((st.length : Nat) : Int), ((Rc.len (⟨s.kd, s.key, s.val, s.x⟩ : Rc.Rec) : Nat) : Int), s⟩ : Fd)]).length ≤ i + 1 := by rw [List.length_append, List.length_singleton]; omega
          generalize l ++ [(⟨((st.length : Nat) : Int), ((Rc.len (⟨s.kd, s.key, s.val, s.x⟩ : Rc.Rec) : Nat) : Int), s⟩ : Fd)] = l7 at *
          generalize ds ++ [(st.length, (⟨s.kd, s.key, s.val, s.x⟩ : Rc.Rec))] = ds7 at *
          refine (rgsync_any (Lib.hid HST9.out.g) HST9.out.fit ht hz HST9.out.few).mono ?_
          rintro e w10 ⟨rfl, c10, hst10, hw10⟩
          have HSY := Lib.hid (HST9.out.sync hw10 hst10)
          rw [HSY.out.1]
          have HST10 := Lib.hid HSY.out.2
          have HB10 := Lib.hid HST9.out.b
          clear hst10 hw10 HSY HST9
          generalize Rg.syncFs (Rg.after ⟨3, ver, (rs : Int), 4⟩ 3 4 f7 n st7 (Pk.pad st7)) = f10 at *
          have HSU10 : Hid (Sc.Sure ver (Pk.pad st7) (Pk.full (Pk.pad st7)) nl) := by
            have h1 := congrArg List.length HSAY7.out
            rw [List.length_map, List.length_map, HNL.out] at h1
            show Sc.Sure _ _ _ _
            rw [h1]; exact sure_sync HB10.out
          clear HB10
          generalize Pk.pad st7 = st10 at *
          go_wp2_with fail
          go_roundw
          case rel => exact ⟨i + 1, st10, f10, c10, _, ds7, l7, nl, by go_num, by omega, rfl, hli7, HST10.out, HSAY7.out, HSU10.out⟩
          case measure => simp [Go.RowKit.intOf]; omega
      · have HPU : Hid (Sc.puts ⟨3, ver, (rs : Int), 4⟩ st (⟨s.kd, s.key, s.val, s.x⟩ : Rc.Rec) ds = ds) := if_neg herr
        rw [HPU.out] at HST7
        have f8 : (Rg.worst (Pk.err ⟨3, ver, (rs : Int), 4⟩ st (⟨s.kd, s.key, s.val, s.x⟩ : Rc.Rec)) 0 == 0) = false := by
          have : Rg.worst (Pk.err ⟨3, ver, (rs : Int), 4⟩ st (⟨s.kd, s.key, s.val, s.x⟩ : Rc.Rec)) 0 = Pk.err ⟨3, ver, (rs : Int), 4⟩ st (⟨s.kd, s.key, s.val, s.x⟩ : Rc.Rec) := if_neg herr
          rw [this]; simpa using herr
        have HSAY7 := HSAY
        have hli7 : l.length ≤ i + 1 := by omega
        generalize Rg.worst (Pk.err ⟨3, ver, (rs : Int), 4⟩ st (⟨s.kd, s.key, s.val, s.x⟩ : Rc.Rec)) 0 = er at *
        generalize Rg.pos (Pk.err ⟨3, ver, (rs : Int), 4⟩ st (⟨s.kd, s.key, s.val, s.x⟩ : Rc.Rec)) 0 ((st.length : Nat) : Int) = p1
        generalize Rg.pos (Pk.err ⟨3, ver, (rs : Int), 4⟩ st (⟨s.kd, s.key, s.val, s.x⟩ : Rc.Rec)) 0 ((Rc.len (⟨s.kd, s.key, s.val, s.x⟩ : Rc.Rec) : Nat) : Int) = p2
        clear herr HPU HPOS HST6 HFR7 HRS5 HSMA
        generalize Pk.put ⟨3, ver, (rs : Int), 4⟩ 4 st (⟨s.kd, s.key, s.val, s.x⟩ : Rc.Rec) = st7 at *
        have HST9 := HST7
        clear HST7
        generalize hl7 : l = l7 at *
        generalize hds7 : ds = ds7 at *
        obtain ⟨Aw, cw, hvw, -⟩ := HST9.out.fds
        obtain ⟨nl, hnl⟩ : ∃ nl, l7.length = nl := ⟨_, rfl⟩
        rw [hnl] at hvw
        have HNL := Lib.hid hnl
        clear hnl
        subst hvw
        rcases take_ways i n2 l2 with ⟨f0, f2, f2'⟩ | ⟨hin2, f2, f4 | f4⟩
        · go_wp2_with fail
          go_roundw
          case rel => exact ⟨i + 1, st7, f7, c7, q, ds7, l7, su, by go_num, by omega, rfl, hli7, HST9.out, HSAY7.out, (HSU.out.more HMO.out)⟩
          case measure => simp [Go.RowKit.intOf]; omega
        · obtain ⟨a2, rfl⟩ := hb2.out.some (k := i) (by rw [hl2.out]; exact hin2)
          have c0 := bools_at (hb2.out.below HST9.out.g.up (Nat.le_refl _)) i (by rw [hl2.out]; exact hin2)
          rw [f4] at c0
          clear f4
          go_wp2_with fail
          go_roundw
          case rel => exact ⟨i + 1, st7, f7, c7, q, ds7, l7, su, by go_num, by omega, rfl, hli7, HST9.out, HSAY7.out, (HSU.out.more HMO.out)⟩
          case measure => simp [Go.RowKit.intOf]; omega
        · obtain ⟨a2, rfl⟩ := hb2.out.some (k := i) (by rw [hl2.out]; exact hin2)
          have c0 := bools_at (hb2.out.below HST9.out.g.up (Nat.le_refl _)) i (by rw [hl2.out]; exact hin2)
          rw [f4] at c0
          clear f4
          go_wp2_with fail
          refine (rgsync_any (Lib.hid HST9.out.g) HST9.out.fit ht hz HST9.out.few).mono ?_
          rintro e w10 ⟨rfl, c10, hst10, hw10⟩
          have HSY := Lib.hid (HST9.out.sync hw10 hst10)
          rw [HSY.out.1]
          have HST10 := Lib.hid HSY.out.2
          have HB10 := Lib.hid HST9.out.b
          clear hst10 hw10 HSY HST9
          generalize Rg.syncFs (Rg.after ⟨3, ver, (rs : Int), 4⟩ 3 4 f7 n st7 (Pk.pad st7)) = f10 at *
          have HSU10 : Hid (Sc.Sure ver (Pk.pad st7) (Pk.full (Pk.pad st7)) nl) := by
            have h1 := congrArg List.length HSAY7.out
            rw [List.length_map, List.length_map, HNL.out] at h1
            show Sc.Sure _ _ _ _
            rw [h1]; exact sure_sync HB10.out
          clear HB10
          generalize Pk.pad st7 = st10 at *
          go_wp2_with fail
          go_roundw
          case rel => exact ⟨i + 1, st10, f10, c10, _, ds7, l7, nl, by go_num, by omega, rfl, hli7, HST10.out, HSAY7.out, HSU10.out⟩
          case measure => simp [Go.RowKit.intOf]; omega
end Go.Proofs.YtledfdpabmlecaaGreatDoor
