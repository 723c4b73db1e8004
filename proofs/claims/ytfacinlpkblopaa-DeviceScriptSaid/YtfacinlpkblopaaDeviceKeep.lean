/-
  The law on what a crash keeps, walked.
-/
import Derived.Test.YtfacinlpkblopaaDeviceWords
namespace Go.Proofs.Ytfacinlpkblopaa
open Go.RowKit Go.Maps
theorem OpIs.cells {w : World} {B k : Nat} {ad : Addr} {kd ix : Int} {Ab : Option Addr} {nb cb : Nat} {lb : List Nat} {Ak : Option Addr} {nk ck : Nat} {lk : List Bool} {At : Option Addr} {nt ct : Nat} {lt : List (Int × Int)}
    (h : OpIs w B (ad.add k) kd ix Ab nb cb lb Ak nk ck lk At nt ct lt) :
    w.cell? (ad.add k) = some (.int .i64 kd) ∧ w.cell? ⟨(ad.add k).block, (ad.add k).off + 1, none⟩ = some (.int .i64 ix) ∧ w.cell? ⟨(ad.add k).block, (ad.add k).off + 2, none⟩ = some (.slice Ab nb cb) ∧
      w.cell? ⟨(ad.add k).block, (ad.add k).off + 3, none⟩ = some (.slice Ak nk ck) ∧ w.cell? ⟨(ad.add k).block, (ad.add k).off + 4, none⟩ = some (.slice At nt ct) := by
  refine ⟨?_, ?_, ?_, ?_, ?_⟩
  · have e : (ad.add k).add 0 = ad.add k := by unfold Addr.add; rfl
    rw [← e]; exact h.c0
  · rw [← field_at ad k 0]; exact h.c1
  · rw [← field_at ad k 1]; exact h.c2
  · rw [← field_at ad k 2]; exact h.c3
  · rw [← field_at ad k 3]; exact h.c4
/-- What holds at the head of the rounds of DeviceKeep. -/
structure KeepAt (w wr : World) (g c m i : Nat) (s : Flash) (Ao : Option Addr) (no : Nat) : Prop where
  dev : Dev wr g c m 5 s
  plain : Plain s
  wr_ : s.wr ≤ i
  below : Below w.heap.size w wr
  olds : Bs wr wr.heap.size Ao (crashed 5 s.cur s.old [] [])
  olen : no = 5 * 64
  far : ∀ ad, Ao = some ad → w.heap.size ≤ ad.block ∧ ad.block ≠ g ∧ ad.block ≠ c ∧ ad.block ≠ m
set_option maxRecDepth 100000 in
set_option maxHeartbeats 2000000 in
theorem devicekeep_any (A : Option Addr) (n ca : Nat) (A1 : Option Addr) (n1 c1 : Nat) (l1 : List Bool) (A2 : Option Addr) (n2 c2 : Nat) (l2 : List (Int × Int)) (w : World)
    (hs0 : SlOk A n ca) (hb0 : Hid (OpsAt w w.heap.size A n)) (hs1 : SlOk A1 n1 c1) (hl1 : Hid (l1.length = n1)) (hb1 : Hid (Bls w w.heap.size A1 l1)) (hs2 : SlOk A2 n2 c2) (hl2 : Hid (l2.length = n2)) (hb2 : Hid (Trs w w.heap.size A2 l2)) :
    Calls Try.prog 8 #[.slice A n ca, .slice A1 n1 c1, .slice A2 n2 c2] w (LawDid w) := by
  obtain ⟨hA, hnc, hcm⟩ := hs0
  have HA := Lib.hid hA; clear hA
  have HS1 := Lib.hid hs1; clear hs1
  have HS2 := Lib.hid hs2; clear hs2
  go_enter Try.func8, Try.ntmps8
  go_wp2_with fail
  refine (new_yes 5 _ rfl _ (by omega) (by omega)).mono ?_
  rintro e w1 ⟨g, c, m, rfl, hd, hg, hc, hm, hbl1⟩
  have HD := Lib.hid (And.intro hd hbl1); clear hd hbl1
  have HS : Hid (∀ k, devS g c m k → w.heap.size ≤ k) := fun k h => by rcases h with h | h | h <;> omega
  go_wp2_with fail
  refine (image_any (Lib.hid HD.out.1)).mono ?_
  rintro e w2 ⟨go0, co0, rfl, hgo, hbs2, hlc2, hcm2, hb2', -⟩
  have HR2 : Hid (KeepAt w w2 g c m 0 (Flash.fresh (List.replicate (5 * 64) 0)) (some ⟨go0, 0, none⟩) (5 * 64)) := by
    obtain ⟨q1, q2, q3⟩ := HD.out.1.lt
    refine ⟨HD.out.1.below hb2' q1 q2 q3, plain_fresh _, Nat.le_refl _, HD.out.2.trans (hb2'.mono HD.out.2.size), ?_, rfl, fun ad e => ?_⟩
    · have e : crashed 5 (Flash.fresh (List.replicate (5 * 64) 0)).cur (Flash.fresh (List.replicate (5 * 64) 0)).old [] [] = (Flash.fresh (List.replicate (5 * 64) 0)).cur := crashed_none List.length_replicate _ _
      rw [e]
      exact hbs2
    · injection e with e
      subst e
      have h1 := HD.out.2.size
      have h2 : w1.heap.size ≤ go0 := hgo
      exact ⟨by show w.heap.size ≤ go0; omega, by show go0 ≠ g; omega, by show go0 ≠ c; omega, by show go0 ≠ m; omega⟩
  have hlen0 : (Flash.fresh (List.replicate (5 * 64) 0)).cur.length = 5 * 64 := List.length_replicate
  rw [hlen0]
  clear hbs2 hlc2 hb2' HD hlen0
  go_wp2_with fail
  go_loopw [8, 9] (fun ov iv wr => ∃ (i no co : Nat) (s : Flash) (Ao : Option Addr), i ≤ n ∧ i ≤ 12 ∧ iv = .int .i64 (i : Int) ∧ ov = .slice Ao no co ∧ Hid (KeepAt w wr g c m i s Ao no)) (fun _ iv _ => 12 - (RowKit.intOf iv).toNat)
  case atStart => exact ⟨0, _, _, _, _, Nat.zero_le _, Nat.zero_le _, rfl, rfl, HR2⟩
  case round =>
    clear HR2
    obtain ⟨i, no, co, s, Ao, hin, hi12, rfl, rfl, hR⟩ := hrel
    by_cases hlt : i < n
    · by_cases hlt2 : i < 12
      · obtain ⟨ad, kd, ix, Ab, nb, cb, lb, Ak, nk, ck, lk, At, nt, ct, lt, rfl, hop⟩ := hb0.out.below hR.out.below (Nat.le_refl _) i hlt
        have HOP := Lib.hid hop
        obtain ⟨q0, q1, q2, -, -⟩ := hop.cells
        clear hop
        obtain ⟨j, hj, hjj⟩ := mod_named ix 5 (by omega) (by omega)
        have hjj' := hjj.out
        by_cases hk2 : kd = 2
        · subst hk2
          go_wp2_with fail
          have cb := barrier_any (Lib.hid hR.out.dev)
          rw [hR.out.plain.barrier.1, hR.out.plain.barrier.2] at cb
          refine cb.mono ?_
          rintro e w3 ⟨rfl, hd3, hk3⟩
          have HD3 := Lib.hid (And.intro hd3 (hR.out.below.trans (hk3.below hR.out.below.size (fun k h => HS.out k (h.elim .inl (fun h => .inr (.inr h))))))); clear hd3 hk3 cb q0 q1 q2
          go_wp2_with fail
          refine (image_any (Lib.hid HD3.out.1)).mono ?_
          rintro e w4 ⟨g4, c4, rfl, hg4, hbs4, hlc4, hcm4, hb4, -⟩
          have hcl : s.cur.length = 5 * 64 := hR.out.dev.cur_len
          have HR4 : Hid (KeepAt w w4 g c m (i + 1) { s with old := fun _ => none } (some ⟨g4, 0, none⟩) s.cur.length) := by
            obtain ⟨q1, q2, q3⟩ := HD3.out.1.lt
            refine ⟨HD3.out.1.below hb4 q1 q2 q3, ⟨hR.out.plain.dead, hR.out.plain.fused⟩, by have := hR.out.wr_; show s.wr ≤ _; omega, HD3.out.2.trans (hb4.mono HD3.out.2.size), ?_, hcl, fun ad e => ?_⟩
            · rw [show crashed 5 ({ s with old := fun _ => none } : Flash).cur ({ s with old := fun _ => none } : Flash).old [] [] = s.cur from crashed_none hcl _ _]
              exact hbs4
            · injection e with e
              subst e
              have h1 := HD3.out.2.size
              have h2 : w3.heap.size ≤ g4 := hg4
              exact ⟨by show w.heap.size ≤ g4; omega, by show g4 ≠ g; omega, by show g4 ≠ c; omega, by show g4 ≠ m; omega⟩
          clear hbs4 hlc4 hb4 HD3 hcl hR
          go_wp2
          go_roundw
          case rel => exact ⟨i + 1, _, c4, _, _, by omega, by omega, by go_num, rfl, HR4⟩
          case measure => simp [RowKit.intOf]; omega
        · have hkd : (kd == 2) = false := by simpa using hk2
          have HK2 := Lib.hid hk2; clear hk2
          obtain ⟨kb, hkb1, hkb2, hkb, hmin⟩ := min_named nb 64
          have HKB := Lib.hid hkb; clear hkb
          go_wp2_with fail
          refine wp_region_still_tail 15 (by kernel_rfl) (by kernel_rfl) ?_
          simp only [List.take_succ_cons, List.take_zero, List.drop_succ_cons, List.drop_zero]
          iterate 13 still_step
          refine wpStill_min2 rfl (.tmp 57) (.const (.int .i64 64)) _ rfl .i64 _ _ _ rfl rfl hmin.out ?_
          have hbb := HOP.out.sb
          obtain ⟨hb1', hb2', hb3'⟩ := hbb
          have HB1 := Lib.hid hb1'; clear hb1'
          have hkc : kb ≤ cb := Nat.le_trans hkb1 hb2'
          still_step
          refine wpStill_nil ?_
          change wpList _ _ _ _ _ wr.drew
          have HRd : Hid (KeepAt w wr.drew g c m i s Ao no) := ⟨hR.out.dev, hR.out.plain, hR.out.wr_, hR.out.below.drew, hR.out.olds, hR.out.olen, hR.out.far⟩
          have HBb : Hid (Bs wr.drew w.heap.size Ab (lb.take kb)) := HOP.out.bs.take kb
          have HLb : Hid ((lb.take kb).length = kb) := by
            show _ = _
            rw [List.length_take, HOP.out.lb_]; omega
          clear q0 q1 q2 hR HOP
          generalize wr.drew = wd at HRd HBb ⊢
          have hj5 : j < 5 := by omega
          have hpw := HRd.out.plain.write (n := 5) hj5 (b := lb.take kb) (by rw [HLb.out]; exact hkb2)
          have cw := write_any (j : Int) _ _ kb cb (lb.take kb) (by omega) HLb HBb (Lib.hid HRd.out.dev) (by have := HRd.out.wr_; omega)
          rw [hpw.1, hpw.2] at cw
          clear hpw hjj'
          go_wp2_with (go_at_call 11; refine cw.mono ?_; rintro e w3 ⟨rfl, hd3, hk3⟩; have HD3 := Lib.hid (And.intro hd3 hk3); clear hd3 hk3 cw)
          have HR3 : Hid (KeepAt w w3 g c m (i + 1) (s.wrote j (lb.take kb)) Ao no) := by
            obtain ⟨q1, q2, q3⟩ := HRd.out.dev.lt
            refine ⟨HD3.out.1, HRd.out.plain.wrote j _, by have := HRd.out.wr_; show s.wr + 1 ≤ _; omega, HRd.out.below.trans (HD3.out.2.below HRd.out.below.size HS.out), ?_, HRd.out.olen, HRd.out.far⟩
            rw [crashed_wrote HRd.out.dev.cur_len hj5 (by rw [HLb.out]; exact hkb2)]
            refine (HRd.out.olds.kept HD3.out.2 (fun ad e _ h => ?_)).more HD3.out.2.size
            obtain ⟨_, f1, f2, f3⟩ := HRd.out.far ad e
            rcases h with h | h | h
            · exact f1 h
            · exact f2 h
            · exact f3 h
          clear HRd HD3
          go_roundw
          case rel => exact ⟨i + 1, no, co, _, Ao, by omega, by omega, by go_num, rfl, HR3⟩
          case measure => simp [RowKit.intOf]; omega
      · have hd12 : decide ((i : Int) < 12) = false := by simp; omega
        obtain ⟨k1, hk1, hk1', hke1, hmin1⟩ := min_named n1 9
        obtain ⟨k2, hk2, hk2', hke2, hmin2⟩ := min_named n2 5
        have HKE := Lib.hid (And.intro hke1 hke2); clear hke1 hke2
        have hc1' : k1 ≤ c1 := Nat.le_trans hk1 HS1.out.2.1
        have hc2' : k2 ≤ c2 := Nat.le_trans hk2 HS2.out.2.1
        go_wp2_with fail
        refine wp_region_still_tail 11 (by kernel_rfl) (by kernel_rfl) ?_
        simp only [List.take_succ_cons, List.take_zero, List.drop_succ_cons, List.drop_zero]
        iterate 4 still_step
        refine wpStill_min2 rfl (.tmp 66) (.const (.int .i64 9)) _ rfl .i64 _ _ _ rfl rfl hmin1.out ?_
        iterate 4 still_step
        refine wpStill_min2 rfl (.tmp 71) (.const (.int .i64 5)) _ rfl .i64 _ _ _ rfl rfl hmin2.out ?_
        still_step
        refine wpStill_nil ?_
        change wpList _ _ _ _ _ (World.drew _)
        have HW : Hid (Dev (wr.alloc (.cells #[.bool true, .bool true, .bool true, .bool true, .bool true] 4)).drew g c m 5 s ∧ Below w.heap.size w (wr.alloc (.cells #[.bool true, .bool true, .bool true, .bool true, .bool true] 4)).drew ∧
            Bs (wr.alloc (.cells #[.bool true, .bool true, .bool true, .bool true, .bool true] 4)).drew (wr.alloc (.cells #[.bool true, .bool true, .bool true, .bool true, .bool true] 4)).drew.heap.size Ao (crashed 5 s.cur s.old [] []) ∧
            Bls (wr.alloc (.cells #[.bool true, .bool true, .bool true, .bool true, .bool true] 4)).drew (wr.alloc (.cells #[.bool true, .bool true, .bool true, .bool true, .bool true] 4)).drew.heap.size (some ⟨wr.heap.size, 0, none⟩) [true, true, true, true, true]) := by
          have hb : Below wr.heap.size wr (wr.alloc (.cells #[.bool true, .bool true, .bool true, .bool true, .bool true] 4)) := (Below.refl _ wr).alloc (Nat.le_refl _) _
          refine ⟨hR.out.dev.next hb.drew, (hR.out.below.trans (hb.mono hR.out.below.size)).drew, hR.out.olds.next hb.drew, fun k hk => ?_⟩
          refine ⟨_, rfl, by show wr.heap.size < _; simp, ?_⟩
          show (wr.alloc (.cells #[.bool true, .bool true, .bool true, .bool true, .bool true] 4)).cell? _ = _
          rw [add_flat, Nat.zero_add, cell_of_row _ _ k _ _ _ (heap_alloc_new wr _)]
          match k, hk with
          | 0, _ => rfl
          | 1, _ => rfl
          | 2, _ => rfl
          | 3, _ => rfl
          | 4, _ => rfl
        have HP := Lib.hid hR.out.plain
        have HNO := Lib.hid hR.out.olen
        generalize hwd : (wr.alloc (.cells #[.bool true, .bool true, .bool true, .bool true, .bool true] 4)).drew = wd at HW ⊢
        clear hwd hR
        have HLK : Hid ((l1.take k1).length = k1) := by
          show _ = _
          rw [List.length_take, hl1.out]; omega
        have HLT : Hid ((l2.take k2).length = k2) := by
          show _ = _
          rw [List.length_take, hl2.out]; omega
        go_wp2_with fail
        refine (crash_any A1 A2 k1 c1 k2 c2 (l1.take k1) (l2.take k2) (by omega) HLK HLT (Lib.hid (((hb1.out.take k1).below HW.out.2.1 (Nat.le_refl _)).up HW.out.2.1.size)) (Lib.hid (((hb2.out.take k2).below HW.out.2.1 (Nat.le_refl _)).up HW.out.2.1.size)) (Lib.hid HW.out.1)).mono ?_
        rintro e w3 ⟨g', c', m', rfl, hd3, -, -, -, hb3⟩
        have HE : Hid (EndAt w w3 5 g c m s g' c' m' (crashed 5 s.cur s.old (l1.take k1) (l2.take k2)) wr.heap.size [true, true, true, true, true] Ao (crashed 5 s.cur s.old [] [])) :=
          ⟨HW.out.1.next hb3, HW.out.2.1.trans (hb3.mono HW.out.2.1.size), hd3, HW.out.2.2.2.up' hb3, HW.out.2.2.1.next hb3⟩
        clear hd3 hb3 HW
        go_wp2_with fail
        refine (awake_any _).mono ?_
        rintro e w4 ⟨rfl, hb4⟩
        have HE4 := Lib.hid (HE.out.next hb4); clear HE hb4
        have hcl : s.cur.length = 5 * 64 := HE4.out.dev.cur_len
        have HCL := Lib.hid hcl; clear hcl
        go_wp2_with fail
        refine (crash_any (some ⟨wr.heap.size, 0, none⟩) none 5 5 0 0 [true, true, true, true, true] [] (by omega) rfl rfl (Lib.hid HE4.out.all_) (Lib.hid (trs_nil _)) (Lib.hid HE4.out.dev)).mono ?_
        rintro e w5 ⟨g5, c5, m5, rfl, hd5, -, -, -, hb5⟩
        rw [crashed_all HCL.out [true, true, true, true, true] (fun r hr => by match r, hr with | 0, _ => rfl | 1, _ => rfl | 2, _ => rfl | 3, _ => rfl | 4, _ => rfl)] at hd5
        have HE5 := Lib.hid (And.intro (HE4.out.next hb5) hd5); clear HE4 hb5 hd5
        go_wp2_with fail
        refine (image_any (Lib.hid HE5.out.2)).mono ?_
        rintro e w6 ⟨g6, c6, rfl, -, hbs6, -, -, hb6, -⟩
        rw [show (Flash.fresh s.cur).cur = s.cur from rfl] at hbs6 ⊢
        have HE6 := Lib.hid (And.intro (HE5.out.1.next hb6) hbs6); clear HE5 hb6 hbs6
        go_wp2_with fail
        refine (image_any (Lib.hid HE6.out.1.dev)).mono ?_
        rintro e w7 ⟨g7, c7, rfl, -, hbs7, -, -, hb7, -⟩
        have HE7 := Lib.hid (And.intro (HE6.out.1.next hb7) (And.intro (HE6.out.2.next hb7) hbs7)); clear HE6 hb7 hbs7
        go_wp2_with fail
        refine (refeq_any _ _ _ _ s.cur.length s.cur.length _ _ s.cur s.cur _ (Lib.hid rfl) (Lib.hid rfl) (by rw [HCL.out]; omega) (by rw [HCL.out]; omega) (Lib.hid HE7.out.2.1) (Lib.hid HE7.out.2.2)).mono ?_
        rw [decide_eq_true (rfl : s.cur = s.cur)]
        rintro e w8 ⟨rfl, q8, rfl⟩
        have HE8 := Lib.hid (HE7.out.1.drewN q8); clear HE7
        go_wp2_with fail
        refine (crash_any none none 0 0 0 0 [] [] (by omega) rfl rfl (Lib.hid (bls_nil _)) (Lib.hid (trs_nil _)) (Lib.hid HE8.out.dev)).mono ?_
        rintro e w9 ⟨g9, c9, m9, rfl, hd9, -, -, -, hb9⟩
        have HE9 := Lib.hid (And.intro (HE8.out.next hb9) hd9); clear HE8 hb9 hd9
        go_wp2_with fail
        refine (image_any (Lib.hid HE9.out.2)).mono ?_
        rintro e w10 ⟨g10, c10, rfl, -, hbs10, -, -, hb10, -⟩
        have HOL : Hid ((Flash.fresh (crashed 5 s.cur s.old [] [])).cur.length = 5 * 64) := crashed_len _ _ _ _ _
        rw [HOL.out]
        have HE10 := Lib.hid (And.intro (HE9.out.1.next hb10) hbs10); clear HE9 hb10 hbs10
        go_wp2_with fail
        refine (refeq_any _ _ _ _ 320 no _ _ (crashed 5 s.cur s.old [] []) (crashed 5 s.cur s.old [] []) _ (Lib.hid HOL.out) (Lib.hid (HOL.out.trans HNO.out.symm)) (by omega) (by have := HNO.out; omega) (Lib.hid HE10.out.2) (Lib.hid HE10.out.1.olds)).mono ?_
        rw [decide_eq_true (rfl : crashed 5 s.cur s.old [] [] = crashed 5 s.cur s.old [] [])]
        rintro e w11 ⟨rfl, q11, rfl⟩
        have HE11 := Lib.hid (HE10.out.1.drewN q11); clear HE10
        go_wp2_with fail
        refine (crash_any none none 0 0 0 0 [] [] (by omega) rfl rfl (Lib.hid (bls_nil _)) (Lib.hid (trs_nil _)) (Lib.hid HE11.out.dev')).mono ?_
        rintro e w12 ⟨g12, c12, m12, rfl, hd12, -, -, -, hb12⟩
        generalize hC : crashed 5 s.cur s.old (l1.take k1) (l2.take k2) = C at HE11 hd12
        have HCC : Hid (C.length = 5 * 64) := by
          show _ = _
          rw [← hC]; exact crashed_len _ _ _ _ _
        clear hC
        rw [show crashed 5 (Flash.fresh C).cur (Flash.fresh C).old [] [] = C from crashed_none HCC.out _ _] at hd12
        have HE12 := Lib.hid (And.intro (HE11.out.next hb12) hd12); clear HE11 hb12 hd12
        go_wp2_with fail
        refine (image_any (Lib.hid HE12.out.2)).mono ?_
        rintro e w13 ⟨g13, c13, rfl, -, hbs13, -, -, hb13, -⟩
        rw [show (Flash.fresh C).cur = C from rfl] at hbs13 ⊢
        have HE13 := Lib.hid (And.intro (HE12.out.1.next hb13) hbs13); clear HE12 hb13 hbs13
        go_wp2_with fail
        refine (image_any (Lib.hid HE13.out.1.dev')).mono ?_
        rintro e w14 ⟨g14, c14, rfl, -, hbs14, -, -, hb14, -⟩
        rw [show (Flash.fresh C).cur = C from rfl] at hbs14 ⊢
        have HE14 := Lib.hid (And.intro (HE13.out.1.next hb14) (And.intro (HE13.out.2.next hb14) hbs14)); clear HE13 hb14 hbs14
        go_wp2_with fail
        refine (refeq_any _ _ _ _ C.length C.length _ _ C C _ (Lib.hid rfl) (Lib.hid rfl) (by rw [HCC.out]; omega) (by rw [HCC.out]; omega) (Lib.hid HE14.out.2.1) (Lib.hid HE14.out.2.2)).mono ?_
        rw [decide_eq_true (rfl : C = C)]
        rintro e w15 ⟨rfl, q15, rfl⟩
        have HE15 := Lib.hid (HE14.out.1.drewN q15); clear HE14
        have CD := dirty_any (Lib.hid HE15.out.dev')
        rw [show ((dirtyCount 5 (Flash.fresh C).old : Nat) : Int) = 0 from rfl] at CD
        have CE := dead_any (Lib.hid HE15.out.dev')
        rw [show (Flash.fresh C).dead = false from rfl] at CE
        go_wp2_with (first
          | (go_at_call 28; refine CD.mono ?_; rintro e w' ⟨rfl, rfl⟩)
          | (go_at_call 25; refine CE.mono ?_; rintro e w' ⟨rfl, rfl⟩))
        go_ret
        exact ⟨rfl, HE15.out.below⟩
    · have hdk : decide ((i : Int) < (n : Int)) = false := by simp; omega
      obtain ⟨k1, hk1, hk1', hke1, hmin1⟩ := min_named n1 9
      obtain ⟨k2, hk2, hk2', hke2, hmin2⟩ := min_named n2 5
      have HKE := Lib.hid (And.intro hke1 hke2); clear hke1 hke2
      have hc1' : k1 ≤ c1 := Nat.le_trans hk1 HS1.out.2.1
      have hc2' : k2 ≤ c2 := Nat.le_trans hk2 HS2.out.2.1
      go_wp2_with fail
      refine wp_region_still_tail 11 (by kernel_rfl) (by kernel_rfl) ?_
      simp only [List.take_succ_cons, List.take_zero, List.drop_succ_cons, List.drop_zero]
      iterate 4 still_step
      refine wpStill_min2 rfl (.tmp 66) (.const (.int .i64 9)) _ rfl .i64 _ _ _ rfl rfl hmin1.out ?_
      iterate 4 still_step
      refine wpStill_min2 rfl (.tmp 71) (.const (.int .i64 5)) _ rfl .i64 _ _ _ rfl rfl hmin2.out ?_
      still_step
      refine wpStill_nil ?_
      change wpList _ _ _ _ _ (World.drew _)
      have HW : Hid (Dev (wr.alloc (.cells #[.bool true, .bool true, .bool true, .bool true, .bool true] 4)).drew g c m 5 s ∧ Below w.heap.size w (wr.alloc (.cells #[.bool true, .bool true, .bool true, .bool true, .bool true] 4)).drew ∧
          Bs (wr.alloc (.cells #[.bool true, .bool true, .bool true, .bool true, .bool true] 4)).drew (wr.alloc (.cells #[.bool true, .bool true, .bool true, .bool true, .bool true] 4)).drew.heap.size Ao (crashed 5 s.cur s.old [] []) ∧
          Bls (wr.alloc (.cells #[.bool true, .bool true, .bool true, .bool true, .bool true] 4)).drew (wr.alloc (.cells #[.bool true, .bool true, .bool true, .bool true, .bool true] 4)).drew.heap.size (some ⟨wr.heap.size, 0, none⟩) [true, true, true, true, true]) := by
        have hb : Below wr.heap.size wr (wr.alloc (.cells #[.bool true, .bool true, .bool true, .bool true, .bool true] 4)) := (Below.refl _ wr).alloc (Nat.le_refl _) _
        refine ⟨hR.out.dev.next hb.drew, (hR.out.below.trans (hb.mono hR.out.below.size)).drew, hR.out.olds.next hb.drew, fun k hk => ?_⟩
        refine ⟨_, rfl, by show wr.heap.size < _; simp, ?_⟩
        show (wr.alloc (.cells #[.bool true, .bool true, .bool true, .bool true, .bool true] 4)).cell? _ = _
        rw [add_flat, Nat.zero_add, cell_of_row _ _ k _ _ _ (heap_alloc_new wr _)]
        match k, hk with
        | 0, _ => rfl
        | 1, _ => rfl
        | 2, _ => rfl
        | 3, _ => rfl
        | 4, _ => rfl
      have HP := Lib.hid hR.out.plain
      have HNO := Lib.hid hR.out.olen
      generalize hwd : (wr.alloc (.cells #[.bool true, .bool true, .bool true, .bool true, .bool true] 4)).drew = wd at HW ⊢
      clear hwd hR
      have HLK : Hid ((l1.take k1).length = k1) := by
        show _ = _
        rw [List.length_take, hl1.out]; omega
      have HLT : Hid ((l2.take k2).length = k2) := by
        show _ = _
        rw [List.length_take, hl2.out]; omega
      go_wp2_with fail
      refine (crash_any A1 A2 k1 c1 k2 c2 (l1.take k1) (l2.take k2) (by omega) HLK HLT (Lib.hid (((hb1.out.take k1).below HW.out.2.1 (Nat.le_refl _)).up HW.out.2.1.size)) (Lib.hid (((hb2.out.take k2).below HW.out.2.1 (Nat.le_refl _)).up HW.out.2.1.size)) (Lib.hid HW.out.1)).mono ?_
      rintro e w3 ⟨g', c', m', rfl, hd3, -, -, -, hb3⟩
      have HE : Hid (EndAt w w3 5 g c m s g' c' m' (crashed 5 s.cur s.old (l1.take k1) (l2.take k2)) wr.heap.size [true, true, true, true, true] Ao (crashed 5 s.cur s.old [] [])) :=
        ⟨HW.out.1.next hb3, HW.out.2.1.trans (hb3.mono HW.out.2.1.size), hd3, HW.out.2.2.2.up' hb3, HW.out.2.2.1.next hb3⟩
      clear hd3 hb3 HW
      go_wp2_with fail
      refine (awake_any _).mono ?_
      rintro e w4 ⟨rfl, hb4⟩
      have HE4 := Lib.hid (HE.out.next hb4); clear HE hb4
      have hcl : s.cur.length = 5 * 64 := HE4.out.dev.cur_len
      have HCL := Lib.hid hcl; clear hcl
      go_wp2_with fail
      refine (crash_any (some ⟨wr.heap.size, 0, none⟩) none 5 5 0 0 [true, true, true, true, true] [] (by omega) rfl rfl (Lib.hid HE4.out.all_) (Lib.hid (trs_nil _)) (Lib.hid HE4.out.dev)).mono ?_
      rintro e w5 ⟨g5, c5, m5, rfl, hd5, -, -, -, hb5⟩
      rw [crashed_all HCL.out [true, true, true, true, true] (fun r hr => by match r, hr with | 0, _ => rfl | 1, _ => rfl | 2, _ => rfl | 3, _ => rfl | 4, _ => rfl)] at hd5
      have HE5 := Lib.hid (And.intro (HE4.out.next hb5) hd5); clear HE4 hb5 hd5
      go_wp2_with fail
      refine (image_any (Lib.hid HE5.out.2)).mono ?_
      rintro e w6 ⟨g6, c6, rfl, -, hbs6, -, -, hb6, -⟩
      rw [show (Flash.fresh s.cur).cur = s.cur from rfl] at hbs6 ⊢
      have HE6 := Lib.hid (And.intro (HE5.out.1.next hb6) hbs6); clear HE5 hb6 hbs6
      go_wp2_with fail
      refine (image_any (Lib.hid HE6.out.1.dev)).mono ?_
      rintro e w7 ⟨g7, c7, rfl, -, hbs7, -, -, hb7, -⟩
      have HE7 := Lib.hid (And.intro (HE6.out.1.next hb7) (And.intro (HE6.out.2.next hb7) hbs7)); clear HE6 hb7 hbs7
      go_wp2_with fail
      refine (refeq_any _ _ _ _ s.cur.length s.cur.length _ _ s.cur s.cur _ (Lib.hid rfl) (Lib.hid rfl) (by rw [HCL.out]; omega) (by rw [HCL.out]; omega) (Lib.hid HE7.out.2.1) (Lib.hid HE7.out.2.2)).mono ?_
      rw [decide_eq_true (rfl : s.cur = s.cur)]
      rintro e w8 ⟨rfl, q8, rfl⟩
      have HE8 := Lib.hid (HE7.out.1.drewN q8); clear HE7
      go_wp2_with fail
      refine (crash_any none none 0 0 0 0 [] [] (by omega) rfl rfl (Lib.hid (bls_nil _)) (Lib.hid (trs_nil _)) (Lib.hid HE8.out.dev)).mono ?_
      rintro e w9 ⟨g9, c9, m9, rfl, hd9, -, -, -, hb9⟩
      have HE9 := Lib.hid (And.intro (HE8.out.next hb9) hd9); clear HE8 hb9 hd9
      go_wp2_with fail
      refine (image_any (Lib.hid HE9.out.2)).mono ?_
      rintro e w10 ⟨g10, c10, rfl, -, hbs10, -, -, hb10, -⟩
      have HOL : Hid ((Flash.fresh (crashed 5 s.cur s.old [] [])).cur.length = 5 * 64) := crashed_len _ _ _ _ _
      rw [HOL.out]
      have HE10 := Lib.hid (And.intro (HE9.out.1.next hb10) hbs10); clear HE9 hb10 hbs10
      go_wp2_with fail
      refine (refeq_any _ _ _ _ 320 no _ _ (crashed 5 s.cur s.old [] []) (crashed 5 s.cur s.old [] []) _ (Lib.hid HOL.out) (Lib.hid (HOL.out.trans HNO.out.symm)) (by omega) (by have := HNO.out; omega) (Lib.hid HE10.out.2) (Lib.hid HE10.out.1.olds)).mono ?_
      rw [decide_eq_true (rfl : crashed 5 s.cur s.old [] [] = crashed 5 s.cur s.old [] [])]
      rintro e w11 ⟨rfl, q11, rfl⟩
      have HE11 := Lib.hid (HE10.out.1.drewN q11); clear HE10
      go_wp2_with fail
      refine (crash_any none none 0 0 0 0 [] [] (by omega) rfl rfl (Lib.hid (bls_nil _)) (Lib.hid (trs_nil _)) (Lib.hid HE11.out.dev')).mono ?_
      rintro e w12 ⟨g12, c12, m12, rfl, hd12, -, -, -, hb12⟩
      generalize hC : crashed 5 s.cur s.old (l1.take k1) (l2.take k2) = C at HE11 hd12
      have HCC : Hid (C.length = 5 * 64) := by
        show _ = _
        rw [← hC]; exact crashed_len _ _ _ _ _
      clear hC
      rw [show crashed 5 (Flash.fresh C).cur (Flash.fresh C).old [] [] = C from crashed_none HCC.out _ _] at hd12
      have HE12 := Lib.hid (And.intro (HE11.out.next hb12) hd12); clear HE11 hb12 hd12
      go_wp2_with fail
      refine (image_any (Lib.hid HE12.out.2)).mono ?_
      rintro e w13 ⟨g13, c13, rfl, -, hbs13, -, -, hb13, -⟩
      rw [show (Flash.fresh C).cur = C from rfl] at hbs13 ⊢
      have HE13 := Lib.hid (And.intro (HE12.out.1.next hb13) hbs13); clear HE12 hb13 hbs13
      go_wp2_with fail
      refine (image_any (Lib.hid HE13.out.1.dev')).mono ?_
      rintro e w14 ⟨g14, c14, rfl, -, hbs14, -, -, hb14, -⟩
      rw [show (Flash.fresh C).cur = C from rfl] at hbs14 ⊢
      have HE14 := Lib.hid (And.intro (HE13.out.1.next hb14) (And.intro (HE13.out.2.next hb14) hbs14)); clear HE13 hb14 hbs14
      go_wp2_with fail
      refine (refeq_any _ _ _ _ C.length C.length _ _ C C _ (Lib.hid rfl) (Lib.hid rfl) (by rw [HCC.out]; omega) (by rw [HCC.out]; omega) (Lib.hid HE14.out.2.1) (Lib.hid HE14.out.2.2)).mono ?_
      rw [decide_eq_true (rfl : C = C)]
      rintro e w15 ⟨rfl, q15, rfl⟩
      have HE15 := Lib.hid (HE14.out.1.drewN q15); clear HE14
      have CD := dirty_any (Lib.hid HE15.out.dev')
      rw [show ((dirtyCount 5 (Flash.fresh C).old : Nat) : Int) = 0 from rfl] at CD
      have CE := dead_any (Lib.hid HE15.out.dev')
      rw [show (Flash.fresh C).dead = false from rfl] at CE
      go_wp2_with (first
        | (go_at_call 28; refine CD.mono ?_; rintro e w' ⟨rfl, rfl⟩)
        | (go_at_call 25; refine CE.mono ?_; rintro e w' ⟨rfl, rfl⟩))
      go_ret
      exact ⟨rfl, HE15.out.below⟩
end Go.Proofs.Ytfacinlpkblopaa
