/-
  The law RegionOnce.
-/
import Derived.Test.YtepbdicglgjcjaaDoorFoldM
import Derived.Test.YtepbdicglgjcjaaDoorFoldI
set_option maxRecDepth 100000
namespace Go.Proofs.YtepbdicglgjcjaaDoor
open Go.RowKit
theorem rg_low (v : Int) (k : Nat) (ki : Int) (hk : (BitVec.ofInt 64 ki).toNat = k) (hk2 : k < 4611686018427387904) : ∃ N : Nat, N ≤ k ∧ bits .and .i64 v ki = (N : Int) := by
  have hle : (BitVec.ofInt 64 v).toNat &&& k ≤ k := Nat.and_le_right
  refine ⟨(BitVec.ofInt 64 v).toNat &&& k, hle, ?_⟩
  show IntKind.i64.wrap ((BitVec.ofInt 64 v &&& BitVec.ofInt 64 ki).toNat : Int) = _
  rw [BitVec.toNat_and, hk, IntKind.wrap_i64]
  omega
/-- The laws' layouts. -/
def Small (ver : Int) (rs : Nat) : Prop := (ver = 1 ∨ ver = 2) ∧ (rs = 2 ∨ rs = 4 ∨ rs = 8 ∨ rs = 16)
theorem Small.form {ver : Int} {rs : Nat} (h : Small ver rs) : Sb.form ⟨3, ver, (rs : Int), 4⟩ := by
  obtain ⟨h1, h2⟩ := h
  unfold Sb.form Sb.pw
  simp only
  omega
theorem Small.ok {ver : Int} {rs : Nat} (h : Small ver rs) {slot : Int} (h1 : 0 ≤ slot) (h2 : slot < 4) : Pk.ok ⟨3, ver, (rs : Int), 4⟩ slot 7 := ⟨⟨h.form, h1, h2⟩, by decide, by decide⟩
theorem Small.may {ver : Int} {rs : Nat} (h : Small ver rs) {slot now : Int} (h1 : 0 ≤ slot) (h2 : slot < 4) (h3 : 0 ≤ now ∧ now ≤ 9) : Rg.may ⟨3, ver, (rs : Int), 4⟩ ⟨ver, slot, 3, 7, 3, now⟩ = 0 := by
  unfold Rg.may
  rw [if_pos ⟨by unfold Hd.valid; simp only; have := h.1; omega, rfl, rfl⟩]
  exact Pk.may_zero (h.ok h1 h2)
theorem Small.cap {ver : Int} {rs : Nat} (h : Small ver rs) : (Pk.cap ⟨3, ver, (rs : Int), 4⟩ : Int) = ((rs : Int) - 1) * 59 ∧ Pk.cap ⟨3, ver, (rs : Int), 4⟩ ≤ 885 := by
  unfold Pk.cap
  simp only
  have := h.2
  omega
theorem rglayout_any (v g : Int) : ∃ (ver : Int) (rs : Nat), Small ver rs ∧ ∀ w, Calls Tryd.prog 24 #[.int .i64 v, .int .i64 g] w fun e w' => e = .returned (.agg #[.int .i64 3, .int .i64 ver, .int .i64 (rs : Int), .int .i64 4]) ∧ Below w.heap.size w w' := by
  obtain ⟨b, hb, eb⟩ := rg_low v 1 1 (by decide) (by decide)
  obtain ⟨q, hq, eq⟩ := rg_low g 3 3 (by decide) (by decide)
  refine ⟨1 + (b : Int), 2 ^ (q + 1), ⟨by omega, ?_⟩, fun w => rglayout_at v g b q eb eq hb hq w⟩
  rcases (show q = 0 ∨ q = 1 ∨ q = 2 ∨ q = 3 by omega) with rfl | rfl | rfl | rfl <;> decide
theorem Free.went {c c' : Nat → Nat} {w w' : World} {b : Nat} {o : Obj} (h : Free c w b o) (hk : Went c c' w w') : Free c' w' b o :=
  ⟨(hk.1.block b (Array.getElem?_eq_some_iff.1 h.1).1 fun e => e h.2).trans h.1, (hk.2 b (Array.getElem?_eq_some_iff.1 h.1).1).trans h.2⟩
theorem room_is {C q : Nat} (h : q ≤ C) (hC : C ≤ 1000000) : IntKind.i64.wrap ((C : Int) - ((C : Int) - (q : Int))) = (q : Int) ∧ IntKind.i64.wrap (1 + (q : Int) / 59) = 1 + (q : Int) / 59 ∧ IntKind.i64.wrap ((q : Int) / 59) = (q : Int) / 59 := by
  rw [IntKind.wrap_i64, IntKind.wrap_i64, IntKind.wrap_i64]
  omega
set_option maxHeartbeats 4000000 in
theorem regiononce_any (v g : Int) (A : Option Addr) (no cap : Nat) (l : List Cl) (w : World) (hl : Hid (l.length = no)) (hb : Hid (ClsAt w w.heap.size A l)) (ht : Hid (TabW w)) (hz : 0 < w.heap.size) :
    Calls Tryd.prog 5 #[.int .i64 v, .int .i64 g, .slice A no cap] w fun e w' => e = .returned (.bool true) ∧ Below w.heap.size w w' := by
  obtain ⟨ver, rs, hsm, hlay⟩ := rglayout_any v g
  have HSM := Lib.hid hsm
  have HLAY := Lib.hid hlay
  have HRS : Hid (rs ≤ 16 ∧ 2 ≤ rs) := by have := hsm.2; show _ ∧ _; omega
  have HA : Hid (∀ W, Below w.heap.size w W → Calls Tryd.prog 32 #[] W fun e w' => e = .returned (.bool true) ∧ Below W.heap.size W w') := fun W hb => rgawake_any W (Lib.hid (ht.out.below hb hz)) (Nat.lt_of_lt_of_le hz hb.size)
  obtain ⟨n, hn⟩ : ∃ n : Nat, n = 74 + 4 * rs := ⟨_, rfl⟩
  have HN := Lib.hid hn
  have m1 : wrap64 (4 * (rs : Int)) = 4 * (rs : Int) := by have := HRS.out; unfold wrap64; omega
  have m2 : wrap64 (74 + 4 * (rs : Int)) = 74 + 4 * (rs : Int) := by have := HRS.out; unfold wrap64; omega
  have HNEW : Hid (∀ W, Calls Tryd.prog 25 #[.int .i64 (74 + 4 * (rs : Int))] W (NewDev W n)) := fun W => new_dev n _ (by rw [HN.out]; omega) W (by have := HN.out; omega) (by have := HN.out; have := HRS.out; omega)
  unfold NewDev at HNEW
  have HSP : Hid (Gm.spot ⟨3, ver, (rs : Int), 4⟩ 2 = 74 + 2 * (rs : Int)) := rfl
  have HPL := Lib.hid (Rg.begun_plain (plain_fresh (List.replicate (n * 64) 0)) (n := n) (x := Gm.spot ⟨3, ver, (rs : Int), 4⟩ 2) (b := Hd.enc (Gm.spot ⟨3, ver, (rs : Int), 4⟩ 2) ⟨ver, 2, 3, 7, 3, 0⟩) (by rw [HSP.out, HN.out]; have := HRS.out; omega) (by rw [Hd.enc_length]; decide))
  clear hsm hlay hn
  go_enter Tryd.func5, Tryd.ntmps5
  go_wp2_with fail
  refine (HLAY.out _).mono ?_
  rintro e w1 ⟨rfl, hb1⟩
  have HB1 := Lib.hid hb1
  clear hb1 HLAY
  go_upto_region 2 with fail
  have HX2 := Lib.hid (heap_alloc_new w1 (.cells #[.int .i64 3, .int .i64 ver, .int .i64 (rs : Int), .int .i64 4] 23))
  have HB2 : Hid (Below w.heap.size w (w1.alloc (.cells #[.int .i64 3, .int .i64 ver, .int .i64 (rs : Int), .int .i64 4] 23))) := HB1.out.alloc HB1.out.size _
  have hq : w.heap.size ≤ w1.heap.size := HB1.out.size
  generalize w1.alloc (.cells #[.int .i64 3, .int .i64 ver, .int .i64 (rs : Int), .int .i64 4] 23) = w2 at *
  generalize w1.heap.size = q at *
  obtain ⟨z0, z1, z2, z3⟩ := four_cells HX2.out
  go_wp2_with fail
  refine (HNEW.out _).mono ?_
  rintro e w3 ⟨gd, cd, md, rfl, hd3, hnew, hb3⟩
  have HX3 := Lib.hid ((hb3.block q (Array.getElem?_eq_some_iff.1 HX2.out).1).trans HX2.out)
  have HB3 := Lib.hid (HB2.out.trans (hb3.mono HB2.out.size))
  have HD3 := Lib.hid hd3
  have HNW := Lib.hid (devnew_on hnew HB2.out.size)
  have HQD : Hid (∀ k, devS gd cd md k → k ≠ q) := fun k hk e => by
    have h1 := (Array.getElem?_eq_some_iff.1 HX2.out).1
    unfold DevNew at hnew
    unfold devS at hk
    omega
  have HQ3 : Hid (q < w3.heap.size) := (Array.getElem?_eq_some_iff.1 HX3.out).1
  clear hb3 hd3 hnew HNEW HB2 HX2 z0 z1 z2 z3 m1 m2
  obtain ⟨z0, z1, z2, z3⟩ := four_cells HX3.out
  go_wp2_with fail
  refine (rgopen_any (W := w) 3 ver (rs : Int) 4 ver 2 3 7 3 0 HB3 HNW HD3 (Lib.hid (ht.out.below HB3.out hz)) (Nat.lt_of_lt_of_le hz HB3.out.size) (by show 0 < _; decide)).mono ?_
  intro e w4 ho
  rcases ho with ⟨h, -⟩ | ⟨-, h, -⟩ | ⟨-, -, r, gp, cl, rfl, hst, hk4, hcl⟩
  · exact absurd (HSM.out.may (by decide) (by decide) (by decide)) h
  · exact absurd HPL.out.1 h
  have HFR4 : Hid (Free cl w4 q (.cells #[.int .i64 3, .int .i64 ver, .int .i64 (rs : Int), .int .i64 4] 23 (0, 0))) := ⟨(hk4.block q HQ3.out fun e => HQD.out q e rfl).trans HX3.out, Decidable.byContradiction fun hc => by
    rcases hcl q hc with h | h
    · exact HQD.out q h rfl
    · have := HQ3.out; omega⟩
  generalize Rg.begun (Flash.fresh (List.replicate (n * 64) 0)) n (Gm.spot ⟨3, ver, (rs : Int), 4⟩ 2) (Hd.enc (Gm.spot ⟨3, ver, (rs : Int), 4⟩ 2) ⟨ver, 2, 3, 7, 3, 0⟩) = R at *
  obtain ⟨f1, x1⟩ := R
  obtain ⟨-, p1, p2, -⟩ := HPL.out
  simp only at p1 p2 hst
  have HST4 := Lib.hid hst
  have HP4 : Hid (Plain f1 ∧ f1.wr = 1 + Pk.full []) := ⟨p1, p2⟩
  have HFIT4 : Hid (Pk.Fit ⟨3, ver, (rs : Int), 4⟩ 2 7 [] (Pk.full [])) := Pk.Fit.start (HSM.out.ok (by decide) (by decide))
  clear hst p1 p2 HPL z0 z1 z2 z3 HX3 HD3 hk4 hcl HB3 HNW HQ3
  go_wp2_with fail
  go_loopw [11] (fun iv wr => ∃ (i : Nat) (st : List Nat) (f : Flash) (c : Nat → Nat), iv = .int .i64 (i : Int) ∧ i ≤ 16 ∧ Hid (StG w wr c r gd cd md n f 3 ver (rs : Int) 4 ver 2 3 7 3 0 gp st (Pk.full st)) ∧ Hid (Pk.Fit ⟨3, ver, (rs : Int), 4⟩ 2 7 st (Pk.full st)) ∧ Hid (Plain f ∧ f.wr = 1 + Pk.full st) ∧ Hid (Free c wr q (.cells #[.int .i64 3, .int .i64 ver, .int .i64 (rs : Int), .int .i64 4] 23 (0, 0)))) (fun i _ => 16 - (Go.RowKit.intOf i).toNat)
  case atStart => exact ⟨0, [], f1, cl, rfl, by decide, HST4.out, HFIT4.out, HP4.out, HFR4.out⟩
  case round =>
    clear HST4 HFIT4 HP4 HFR4
    obtain ⟨i, st, f, c, rfl, hi16, HST, HFIT, HPF, HFR⟩ := hrel
    rcases loop_ways i no 16 16 rfl with ⟨t1, t1'⟩ | ⟨t1, t1', t3⟩ | ⟨hin, hi, t1, t1', t3⟩
    · go_wp2_with fail
      refine (HA.out _ HST.out.up).mono ?_
      rintro e w5 ⟨rfl, hb5⟩
      have HZ := Lib.hid (HST.out.up.trans (hb5.mono HST.out.up.size))
      go_wp2
      go_ret
      exact ⟨rfl, HZ.out⟩
    · go_wp2_with fail
      refine (HA.out _ HST.out.up).mono ?_
      rintro e w5 ⟨rfl, hb5⟩
      have HZ := Lib.hid (HST.out.up.trans (hb5.mono HST.out.up.size))
      go_wp2
      go_ret
      exact ⟨rfl, HZ.out⟩
    · obtain ⟨ad, hA⟩ := hb.out.1.some (k := i) (by rw [hl.out]; exact hin)
      subst hA
      have hca := hb.out.below HST.out.up (Nat.le_refl _)
      obtain ⟨o, ho⟩ : ∃ o, l.getD i Cl0 = o := ⟨_, rfl⟩
      obtain ⟨e0, e1, e2, e3, e4, e5, e6⟩ := cls_at hca.1 i (by rw [hl.out]; exact hin) o ho
      have HR0 := Lib.hid (hca.2 i (by rw [hl.out]; exact hin))
      rw [ho] at HR0
      have hwr : f.wr < 4000000000000000000 := by
        have h1 := HPF.out.2
        have h2 := Pk.full_le HFIT.out
        omega
      have hib : (i : Int) < 16 := by omega
      have hib2 : (i : Int) < (no : Int) := by omega
      clear hca ho
      cases hkd : (o.kd == 1)
      · have HSP2 : Hid (Gm.spot ⟨3, ver, (rs : Int), 4⟩ 2 + (rs : Int) ≤ (n : Int)) := by show _ ≤ _; rw [HSP.out, HN.out]; omega
        have HF2 : Hid (Pk.Fit ⟨3, ver, (rs : Int), 4⟩ 2 7 (Pk.put ⟨3, ver, (rs : Int), 4⟩ 7 st o.r.short.r) (Pk.full st)) := HFIT.out.put _ HR0.out.short.lt.1 HR0.out.short.lt.2
        have HAF := Lib.hid (Rg.after_plain (n := n) (fs := f) (st := st) HPF.out.1 HF2.out HSP2.out (Rg.full_put _ _ _ _))
        go_wp2_with fail
        refine (shortrec_any o.r _ ⟨HR0.out.1.1, HR0.out.2.1⟩).mono ?_
        rintro e w5 ⟨rfl, hb5⟩
        have HST5 := Lib.hid (HST.out.new hb5)
        have HR5 := Lib.hid ((HR0.out.below hb5 HST.out.up.size).short)
        have HFR5 := Lib.hid (HFR.out.new hb5)
        have HSZ5 : Hid (w.heap.size ≤ w5.heap.size) := HST5.out.up.size
        clear hb5 e0 e1 e2 e3 e4 e5 e6 HR0 HST HFR
        go_wp2_with fail
        refine (rgappend_any o.r.short.kd o.r.short.x o.r.short.key o.r.short.val o.r.short.A1 o.r.short.A2 w.heap.size o.r.short.n1 o.r.short.c1 o.r.short.n2 o.r.short.c2 HSZ5.out HR5 HST5 HFIT.out ht hz hwr).mono ?_
        rintro e w6 ⟨rfl, c6, hst6, hw6⟩
        have HFR6 := Lib.hid (HFR5.out.went hw6)
        have HFIT6 : Hid (Pk.Fit ⟨3, ver, (rs : Int), 4⟩ 2 7 (Pk.put ⟨3, ver, (rs : Int), 4⟩ 7 st o.r.short.r) (Pk.full (Pk.put ⟨3, ver, (rs : Int), 4⟩ 7 st o.r.short.r))) := HF2.out.take (Nat.le_refl _)
        have HPF6 : Hid (Plain (Rg.after ⟨3, ver, (rs : Int), 4⟩ 2 7 f n st (Pk.put ⟨3, ver, (rs : Int), 4⟩ 7 st o.r.short.r)).1 ∧ (Rg.after ⟨3, ver, (rs : Int), 4⟩ 2 7 f n st (Pk.put ⟨3, ver, (rs : Int), 4⟩ 7 st o.r.short.r)).1.wr = 1 + Pk.full (Pk.put ⟨3, ver, (rs : Int), 4⟩ 7 st o.r.short.r)) := ⟨HAF.out.2.1, by
          have h1 := HPF.out.2
          have h2 := Rg.full_put ⟨3, ver, (rs : Int), 4⟩ 7 st o.r.short.r
          rw [HAF.out.2.2, h1]; omega⟩
        have HST6 : Hid (StG w w6 c6 r gd cd md n (Rg.after ⟨3, ver, (rs : Int), 4⟩ 2 7 f n st (Pk.put ⟨3, ver, (rs : Int), 4⟩ 7 st o.r.short.r)).1 3 ver (rs : Int) 4 ver 2 3 7 3 0 gp (Pk.put ⟨3, ver, (rs : Int), 4⟩ 7 st o.r.short.r) (Pk.full (Pk.put ⟨3, ver, (rs : Int), 4⟩ 7 st o.r.short.r))) := hst6
        generalize Rg.pos (Pk.err ⟨3, ver, (rs : Int), 4⟩ st ⟨o.r.short.kd, o.r.short.key, o.r.short.val, o.r.short.x⟩) _ (st.length : Int) = v1
        generalize Rg.pos (Pk.err ⟨3, ver, (rs : Int), 4⟩ st ⟨o.r.short.kd, o.r.short.key, o.r.short.val, o.r.short.x⟩) _ (Rc.len ⟨o.r.short.kd, o.r.short.key, o.r.short.val, o.r.short.x⟩ : Int) = v2
        generalize Rg.worst (Pk.err ⟨3, ver, (rs : Int), 4⟩ st ⟨o.r.short.kd, o.r.short.key, o.r.short.val, o.r.short.x⟩) _ = v3
        clear hst6 hw6 HF2 HAF HPF HFIT HR5 HST5 HFR5
        generalize (Rg.after ⟨3, ver, (rs : Int), 4⟩ 2 7 f n st (Pk.put ⟨3, ver, (rs : Int), 4⟩ 7 st o.r.short.r)).1 = f6 at *
        generalize Pk.put ⟨3, ver, (rs : Int), 4⟩ 7 st o.r.short.r = st6 at *
        have HBD : Hid (Below w6.heap.size w6 w6.drew) := below_drewN w6 1
        have CW : Hid (∀ W, Below w6.heap.size w6 W → Calls Tryd.prog 41 #[.pointer (some ⟨gd, 0, none⟩)] W fun e w' => e = .returned (.int .i64 (f6.wr : Int)) ∧ W = w') := fun W hW => writes_any (Lib.hid (HST6.out.new hW).d)
        have CC : Hid (∀ W, Calls Tryd.prog 23 #[.agg #[.int .i64 3, .int .i64 ver, .int .i64 (rs : Int), .int .i64 4]] W fun r w' => r = .returned (.int .i64 (Pk.cap ⟨3, ver, (rs : Int), 4⟩ : Int)) ∧ Below W.heap.size W w') := fun W => by
          rw [HSM.out.cap.1]
          exact refpkcap_any 3 ver (rs : Int) 4 (by omega) (by have := HRS.out; omega) W
        have CR : Hid (∀ W, Below w6.heap.size w6 W → Calls Tryd.prog 39 #[.pointer (some ⟨r, 0, none⟩)] W fun e w' => e = .returned (.int .i64 ((Pk.cap ⟨3, ver, (rs : Int), 4⟩ : Int) - (st6.length : Int))) ∧ Below W.heap.size W w') := fun W hW => rgroom_any (Lib.hid (HST6.out.new hW)) HFIT6.out
        obtain ⟨a1, a2, a3⟩ := room_is HFIT6.out.le (by have := HSM.out.cap.2; omega)
        have hne : ((f6.wr : Int) != 1 + (st6.length : Int) / 59) = false := by
          have := HPF6.out.2
          unfold Pk.full at this
          simp only [bne_eq_false_iff_eq]
          omega
        generalize hq6 : st6.length = q6 at *
        have HQ6 := Lib.hid hq6; clear hq6
        generalize Pk.cap ⟨3, ver, (rs : Int), 4⟩ = C at *
        go_wp2_with fail
        go_region_held3 (fun W' => W'.cell? ⟨q, 0, none⟩ = some (.int .i64 3) ∧ W'.cell? ⟨q, 1, none⟩ = some (.int .i64 ver) ∧ W'.cell? ⟨q, 2, none⟩ = some (.int .i64 (rs : Int)) ∧ W'.cell? ⟨q, 3, none⟩ = some (.int .i64 4))
          (first
            | (revert HB9; intro HB9; exact four_cells (HFR6.out.new HB9.out).1)
            | (revert HB8; intro HB8; exact four_cells (HFR6.out.new HB8.out).1)
            | exact four_cells (HFR6.out.new HBD.out).1)
          (first
            | (go_at_call 41; refine (CW.out _ HBD.out).mono ?_; rintro e w7 ⟨rfl, rfl⟩)
            | (go_at_call 23; refine (CC.out _).mono ?_; rintro e w8 ⟨rfl, hb8⟩; have HB8 : Hid (Below w6.heap.size w6 w8) := HBD.out.trans (hb8.mono HBD.out.size); clear hb8)
            | (go_at_call 39; refine (CR.out _ HB8.out).mono ?_; rintro e w9 ⟨rfl, hb9⟩; have HB9 : Hid (Below w6.heap.size w6 w9) := HB8.out.trans (hb9.mono HB8.out.size); clear hb9))
        all_goals
          have HST9 := Lib.hid (HST6.out.new HB9.out)
          have HFR9 := Lib.hid (HFR6.out.new HB9.out)
          go_wp2
          go_roundw
          case rel => exact ⟨i + 1, st6, f6, c6, by go_num, by omega, HST9.out, HFIT6.out, HPF6.out, HFR9.out⟩
          case measure => simp [Go.RowKit.intOf]; omega
      · have HSP2 : Hid (Gm.spot ⟨3, ver, (rs : Int), 4⟩ 2 + (rs : Int) ≤ (n : Int)) := by show _ ≤ _; rw [HSP.out, HN.out]; omega
        have HAF := Lib.hid (Rg.after_plain (n := n) (fs := f) (st := st) HPF.out.1 HFIT.out.pad HSP2.out (Rg.full_pad _))
        have HSY := Lib.hid (Rg.sync_plain HAF.out.1 HAF.out.2.1)
        go_wp2_with fail
        refine (rgsync_any HST HFIT.out ht hz hwr).mono ?_
        rintro e w6 ⟨rfl, c6, hst6, hw6⟩
        rw [HSY.out.1]
        have HFR6 := Lib.hid (HFR.out.went hw6)
        have HFIT6 : Hid (Pk.Fit ⟨3, ver, (rs : Int), 4⟩ 2 7 (Pk.pad st) (Pk.full (Pk.pad st))) := HFIT.out.pad.take (Nat.le_refl _)
        have HPF6 : Hid (Plain (Rg.syncFs (Rg.after ⟨3, ver, (rs : Int), 4⟩ 2 7 f n st (Pk.pad st))) ∧ (Rg.syncFs (Rg.after ⟨3, ver, (rs : Int), 4⟩ 2 7 f n st (Pk.pad st))).wr = 1 + Pk.full (Pk.pad st)) := ⟨HSY.out.2.1, by
          have h1 := HPF.out.2
          have h2 := Rg.full_pad st
          rw [HSY.out.2.2.1, HAF.out.2.2, h1]; omega⟩
        have HST6 := Lib.hid hst6
        have CD6 := Lib.hid (dirty_any (Lib.hid hst6.d))
        rw [dirty_zero HSY.out.2.2.2] at CD6
        clear hst6 hw6 HAF HSY HPF HFIT HST HFR e0 e1 e2 e3 e4 e5 e6 HR0
        generalize Rg.syncFs (Rg.after ⟨3, ver, (rs : Int), 4⟩ 2 7 f n st (Pk.pad st)) = f6 at *
        generalize Pk.pad st = st6 at *
        go_wp2_with fail
        refine CD6.out.mono ?_
        rintro e w7 ⟨rfl, rfl⟩
        clear CD6
        have HBD : Hid (Below w6.heap.size w6 w6.drew) := below_drewN w6 1
        have CW : Hid (∀ W, Below w6.heap.size w6 W → Calls Tryd.prog 41 #[.pointer (some ⟨gd, 0, none⟩)] W fun e w' => e = .returned (.int .i64 (f6.wr : Int)) ∧ W = w') := fun W hW => writes_any (Lib.hid (HST6.out.new hW).d)
        have CC : Hid (∀ W, Calls Tryd.prog 23 #[.agg #[.int .i64 3, .int .i64 ver, .int .i64 (rs : Int), .int .i64 4]] W fun r w' => r = .returned (.int .i64 (Pk.cap ⟨3, ver, (rs : Int), 4⟩ : Int)) ∧ Below W.heap.size W w') := fun W => by
          rw [HSM.out.cap.1]
          exact refpkcap_any 3 ver (rs : Int) 4 (by omega) (by have := HRS.out; omega) W
        have CR : Hid (∀ W, Below w6.heap.size w6 W → Calls Tryd.prog 39 #[.pointer (some ⟨r, 0, none⟩)] W fun e w' => e = .returned (.int .i64 ((Pk.cap ⟨3, ver, (rs : Int), 4⟩ : Int) - (st6.length : Int))) ∧ Below W.heap.size W w') := fun W hW => rgroom_any (Lib.hid (HST6.out.new hW)) HFIT6.out
        obtain ⟨a1, a2, a3⟩ := room_is HFIT6.out.le (by have := HSM.out.cap.2; omega)
        have hne : ((f6.wr : Int) != 1 + (st6.length : Int) / 59) = false := by
          have := HPF6.out.2
          unfold Pk.full at this
          simp only [bne_eq_false_iff_eq]
          omega
        generalize hq6 : st6.length = q6 at *
        have HQ6 := Lib.hid hq6; clear hq6
        generalize Pk.cap ⟨3, ver, (rs : Int), 4⟩ = C at *
        go_wp2_with fail
        go_region_held3 (fun W' => W'.cell? ⟨q, 0, none⟩ = some (.int .i64 3) ∧ W'.cell? ⟨q, 1, none⟩ = some (.int .i64 ver) ∧ W'.cell? ⟨q, 2, none⟩ = some (.int .i64 (rs : Int)) ∧ W'.cell? ⟨q, 3, none⟩ = some (.int .i64 4))
          (first
            | (revert HB9; intro HB9; exact four_cells (HFR6.out.new HB9.out).1)
            | (revert HB8; intro HB8; exact four_cells (HFR6.out.new HB8.out).1)
            | exact four_cells (HFR6.out.new HBD.out).1)
          (first
            | (go_at_call 41; refine (CW.out _ HBD.out).mono ?_; rintro e w7 ⟨rfl, rfl⟩)
            | (go_at_call 23; refine (CC.out _).mono ?_; rintro e w8 ⟨rfl, hb8⟩; have HB8 : Hid (Below w6.heap.size w6 w8) := HBD.out.trans (hb8.mono HBD.out.size); clear hb8)
            | (go_at_call 39; refine (CR.out _ HB8.out).mono ?_; rintro e w9 ⟨rfl, hb9⟩; have HB9 : Hid (Below w6.heap.size w6 w9) := HB8.out.trans (hb9.mono HB8.out.size); clear hb9))
        all_goals
          have HST9 := Lib.hid (HST6.out.new HB9.out)
          have HFR9 := Lib.hid (HFR6.out.new HB9.out)
          go_wp2
          go_roundw
          case rel => exact ⟨i + 1, st6, f6, c6, by go_num, by omega, HST9.out, HFIT6.out, HPF6.out, HFR9.out⟩
          case measure => simp [Go.RowKit.intOf]; omega
end Go.Proofs.YtepbdicglgjcjaaDoor
