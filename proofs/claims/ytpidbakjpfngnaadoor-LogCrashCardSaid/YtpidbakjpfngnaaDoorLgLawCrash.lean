/-
  The walk of the law LogCrash.
-/
import Derived.Test.YtpidbakjpfngnaaDoorLgLast
set_option maxRecDepth 100000
namespace Go.Proofs.YtpidbakjpfngnaaDoor
open Go.RowKit
set_option maxHeartbeats 16000000 in
theorem logcrash_any (ka kb kc : Int) (y : Bool) (w : World) (ht : Hid (Tabs w)) :
    Calls Tryd.prog 5 #[.agg #[.int .i64 ka, .int .i64 kb, .int .i64 kc, .bool y]] w fun r w' => r = .returned (.bool true) ∧ Below w.heap.size w w' := by
  obtain ⟨N, hN, hbN⟩ := low7 ka
  obtain ⟨n, hn, hxn⟩ := lg_mod kb 35 (by decide) (by decide)
  obtain ⟨kk, hkk, hbk⟩ := lowt3 kc
  obtain ⟨M, hM⟩ : ∃ M : Int, 1 + (N : Int) = M := ⟨_, rfl⟩
  have HM : Hid (1 ≤ M ∧ M ≤ 8) := ⟨by omega, by omega⟩
  have HBK : Hid (bits .and .i64 kc 3 = (kk : Int)) := hbk
  have HT : Hid (∀ W, Below w.heap.size w W → Tabs W) := fun W hW => ht.out.next hW
  have HO : Hid (Lg.Own M (Lg.rec_ M fun j => 5 + (j : Int))) := Lg.own_rec ⟨HM.out.1, by have := HM.out.2; omega⟩ fun j hj => ⟨by omega, by omega⟩
  have HAP := Lib.hid (fun l k q i tt => append_next HT.out HO.out l k k q i tt)
  have HAL : Hid (∀ l (q : Int), Lg.At l M (Lg.rec_ M fun j => 5 + (j : Int)) n → q = (if n = 0 then 1 else 2) → ∃ fs e, LastIs M (Lg.rec_ M fun j => 5 + (j : Int)) n y fs e ∧ ∀ W g c mb, Below w.heap.size w W → Dev W g c mb 80 (Flash.clean l n true (kk : Int)) → Calls Tryd.prog 12 #[.pointer (some ⟨g, 0, none⟩), .agg #[.int .i64 q, .int .i64 M, .int .i64 (n : Int), .int .i64 (5 + (n : Int)), .int .i64 2, .int .i64 1, .int .i64 4, .int .i64 4]] W (WriteDid W g c mb 80 fs e)) := fun l q h hq => by
    obtain ⟨fs, e, e1, e2, hl⟩ := app_last HO.out (show n < 36 by omega) h n y kk
    refine ⟨fs, e, hl, fun W g c mb hW hd => ?_⟩
    have h := append_any q M (n : Int) (5 + (n : Int)) 2 1 4 4 g c mb 80 _ W (Lib.hid (HT.out W hW)) hd (show n < _ by omega)
    subst hq
    have e1' : (Flash.clean l n true (kk : Int)).app 80 ⟨if n = 0 then 1 else 2, M, (n : Int), 5 + (n : Int), ⟨2, 1, 4, 4⟩⟩ = fs := e1
    have e2' : (Flash.clean l n true (kk : Int)).appErr 80 ⟨if n = 0 then 1 else 2, M, (n : Int), 5 + (n : Int), ⟨2, 1, 4, 4⟩⟩ = e := e2
    rw [e1', e2'] at h
    exact h
  have HRE : Hid (∀ W g c mb L, Below w.heap.size w W → Dev W g c mb 80 (Flash.fresh L) → Calls Tryd.prog 17 #[.pointer (some ⟨g, 0, none⟩), .int .i64 M] W (RepIs W (Lg.replay L M))) := fun W g c mb L hW hd =>
    replay_any M g c mb 80 _ W (by decide) (show _ = _ from rfl) (Lib.hid (HT.out W hW)) hd
  have HAW : Hid (∀ W, Below w.heap.size w W → Calls Tryd.prog 10 #[] W fun r w' => r = .returned (.bool true) ∧ Below W.heap.size W w') := fun W hW => lgawake_any W (Lib.hid (HT.out W hW))
  have HA0 : Hid (Lg.At (List.replicate (80 * 64) 0) M (Lg.rec_ M fun j => 5 + (j : Int)) 0) := Lg.at_start M HM.out.1 _
  have HS0 := Lib.hid (sd_new w #[.int .i64 ka, .int .i64 kb, .int .i64 kc, .bool y] 45)
  clear ht HT hbk
  unfold WriteDid at HAP HAL
  unfold RepIs at HRE
  generalize hff : (Lg.rec_ M fun j => 5 + (j : Int)) = ff at *
  have HFF : Hid ((Lg.rec_ M fun j => 5 + (j : Int)) = ff) := hff
  clear hff
  go_enter Tryd.func5, Tryd.ntmps5
  go_upto_region 1 with fail
  generalize w.alloc (.cells #[.int .i64 ka, .int .i64 kb, .int .i64 kc, .bool y] 45) = w0 at *
  obtain ⟨z0, z1, z2, z3⟩ := four_cells HS0.out.1
  have HB0 := Lib.hid (fun k => below_drawn HS0.out.2 k)
  go_quiet (fail)
  clear z0 z1 z2 z3
  go_wp2_with fail
  refine (new_dev 80 80 rfl _ (by decide) (by decide)).mono ?_
  rintro r w1 ⟨g, cb, mb, rfl, hd1, hdn, hb1⟩
  have HDN : Hid (DevNew w g cb mb) := devnew_on hdn (HB0.out _).size
  have HB1 : Hid (Below w.heap.size w w1) := (HB0.out _).trans (hb1.mono (HB0.out _).size)
  have HD1 : Hid (Dev w1 g cb mb 80 (Flash.clean (List.replicate (80 * 64) 0) 0 false 0)) := hd1
  have HLT : Hid (∀ k, w1.heap.size ≤ k → ¬ devS g cb mb k) := fun k hk h => by
    have := HD1.out.lt
    unfold devS at h
    omega
  have HDL : Hid (g < w1.heap.size ∧ cb < w1.heap.size ∧ mb < w1.heap.size) := HD1.out.lt
  have HW1 : Hid (w.heap.size ≤ w1.heap.size) := HB1.out.size
  clear hd1 hdn hb1 HB0 HS0
  generalize List.replicate (80 * 64) 0 = l0 at *
  go_wp2_with fail
  go_loopw [8, 9] (fun vv iv wr => ∃ (v0 : Value) (k : Nat) (l : List Nat) (fs : Flash) (e : Int), v0 = vv ∧ k ≤ n + 1 ∧ iv = .int .i64 (k : Int) ∧ Hid (PRow wr w1.heap.size vv k ((List.range k).map ff)) ∧ Hid (Dev wr g cb mb 80 fs) ∧ Hid (Below w.heap.size w wr) ∧ Hid (w1.heap.size ≤ wr.heap.size) ∧ ((k ≤ n ∧ Hid (fs = Flash.clean l k false 0) ∧ Hid (Lg.At l M ff k)) ∨ (k = n + 1 ∧ Hid (LastIs M ff n y fs e)))) (fun _ i _ => n + 1 - (Go.RowKit.intOf i).toNat)
  case atStart => exact ⟨_, 0, l0, _, 0, rfl, Nat.zero_le _, rfl, PRow.nil _ _, HD1, HB1, Nat.le_refl _, .inl ⟨Nat.zero_le _, rfl, HA0⟩⟩
  case round =>
    obtain ⟨v0, k, l, fs, e, rfl, hk, rfl, hrow, hdv, hbel, hsz, hway⟩ := hrel
    rcases hway with ⟨hkn, hfs, hat⟩ | ⟨hkn, hlast⟩
    · have hfs' := hfs.out
      subst hfs'
      clear hfs HA0 HB1 HD1
      go_wp2_with fail
      refine (lgtarget_any _).mono ?_
      rintro r w2 ⟨rfl, hb2⟩
      have HB3 : Hid (Below w.heap.size w (w2.alloc (.cells #[.int .i64 2, .int .i64 M, .int .i64 (k : Int), .int .i64 (5 + (k : Int)), .int .i64 2, .int .i64 1, .int .i64 4, .int .i64 4] 34))) := (hbel.out.trans (hb2.mono hbel.out.size)).alloc (hbel.out.trans (hb2.mono hbel.out.size)).size _
      have HB3' : Hid (Below w.heap.size w (w2.alloc (.cells #[.int .i64 1, .int .i64 M, .int .i64 (k : Int), .int .i64 (5 + (k : Int)), .int .i64 2, .int .i64 1, .int .i64 4, .int .i64 4] 34))) := (hbel.out.trans (hb2.mono hbel.out.size)).alloc (hbel.out.trans (hb2.mono hbel.out.size)).size _
      have HD2 := Lib.hid (hdv.out.on hb2)
      have HR2 := Lib.hid (hrow.out.stays hb2)
      have HZ2 : Hid (w1.heap.size ≤ w2.heap.size) := Nat.le_trans hsz.out hb2.size
      clear hb2 hbel hdv hrow hsz
      go_upto_if 39 with fail
      go_cut [9, 10] (fun s9 s wx => ∃ q : Int, q = (if k = 0 then 1 else 2) ∧ s9 = .int .i64 (k : Int) ∧ s = .pointer (some ⟨w2.heap.size, 0, none⟩) ∧ Hid (wx.heap[w2.heap.size]? = some (.cells #[.int .i64 q, .int .i64 M, .int .i64 (k : Int), .int .i64 (5 + (k : Int)), .int .i64 2, .int .i64 1, .int .i64 4, .int .i64 4] 34 (0, 0))) ∧ Hid (PRow wx w1.heap.size v0 k ((List.range k).map ff)) ∧ Hid (Dev wx g cb mb 80 (Flash.clean l k false 0)) ∧ Hid (Below w.heap.size w wx) ∧ Hid (w1.heap.size ≤ wx.heap.size))
      case first =>
        by_cases hk0 : k = 0
        · have hd : ((k : Int) == 0) = true := by rw [beq_iff_eq]; omega
          go_wp2_with fail
          go_meet
          have hkI : (k : Int) = 0 := by omega
          rw [hkI] at HB3'
          exact ⟨1, by rw [if_pos hk0], by first | rfl | rw [hkI], rfl, by rw [hkI]; exact heap_alloc_new _ _, HR2.out.made _, HD2.out.on (bel_new _ _), HB3', Nat.le_trans HZ2.out (bel_new _ _).size⟩
        · have hd : ((k : Int) == 0) = false := by rw [beq_eq_false_iff_ne]; omega
          go_wp2_with fail
          go_meet
          exact ⟨2, by rw [if_neg hk0], rfl, rfl, heap_alloc_new _ _, HR2.out.made _, HD2.out.on (bel_new _ _), HB3, Nat.le_trans HZ2.out (bel_new _ _).size⟩
      case rest =>
        obtain ⟨q, hq, rfl, rfl, HX3, HR3, HD3, HB4, HZ3⟩ := hcut
        have HVB : Hid (∀ b, v0.ownBlock = some b → b ≠ w2.heap.size) := fun b hb => Nat.ne_of_lt (HR2.out.lt b hb).2
        clear HB3 HB3' HD2 HR2
        generalize wc = w3 at *
        have HGX : Hid (w1.heap.size ≤ w2.heap.size) := HZ2.out
        clear HZ2
        generalize w2.heap.size = gx at *
        have HQ := Lib.hid hq
        clear hq
        have HX4 : Hid ((w3.alloc (.cells #[.int .i64 q, .int .i64 M, .int .i64 (k : Int), .int .i64 (5 + (k : Int)), .int .i64 2, .int .i64 1, .int .i64 4, .int .i64 4] 34)).heap[w3.heap.size]? = some (.cells #[.int .i64 q, .int .i64 M, .int .i64 (k : Int), .int .i64 (5 + (k : Int)), .int .i64 2, .int .i64 1, .int .i64 4, .int .i64 4] 34 (0, 0))) := heap_alloc_new _ _
        have HR4 := Lib.hid (HR3.out.made (.cells #[.int .i64 q, .int .i64 M, .int .i64 (k : Int), .int .i64 (5 + (k : Int)), .int .i64 2, .int .i64 1, .int .i64 4, .int .i64 4] 34))
        have HG4 : Hid ((w3.alloc (.cells #[.int .i64 q, .int .i64 M, .int .i64 (k : Int), .int .i64 (5 + (k : Int)), .int .i64 2, .int .i64 1, .int .i64 4, .int .i64 4] 34)).heap[gx]? = some (.cells #[.int .i64 q, .int .i64 M, .int .i64 (k : Int), .int .i64 (5 + (k : Int)), .int .i64 2, .int .i64 1, .int .i64 4, .int .i64 4] 34 (0, 0))) := (heap_alloc_old _ _ (Array.getElem?_eq_some_iff.1 HX3.out).1).trans HX3.out
        have HB5 : Hid (Below w.heap.size w (w3.alloc (.cells #[.int .i64 q, .int .i64 M, .int .i64 (k : Int), .int .i64 (5 + (k : Int)), .int .i64 2, .int .i64 1, .int .i64 4, .int .i64 4] 34))) := HB4.out.alloc HB4.out.size _
        have HD4 : Hid (Dev (w3.alloc (.cells #[.int .i64 q, .int .i64 M, .int .i64 (k : Int), .int .i64 (5 + (k : Int)), .int .i64 2, .int .i64 1, .int .i64 4, .int .i64 4] 34)) g cb mb 80 _) := HD3.out.on (bel_new _ _)
        have HZ4 : Hid (w1.heap.size ≤ (w3.alloc (.cells #[.int .i64 q, .int .i64 M, .int .i64 (k : Int), .int .i64 (5 + (k : Int)), .int .i64 2, .int .i64 1, .int .i64 4, .int .i64 4] 34)).heap.size) := Nat.le_trans HZ3.out (bel_new _ _).size
        obtain ⟨y0, y1, y2, y3, y4, y5, y6, y7⟩ := eight_cells HX3.out
        go_upto_region 11 with (at_builtin; refine wpList_append_rec2 rfl (.tmp 41) (.tmp 43) rfl w1.heap.size k w3.heap.size 1 _ ((List.range k).map ff) ⟨q, M, (k : Int), 5 + (k : Int), ⟨2, 1, 4, 4⟩⟩ rfl HR4.out rfl HX4.out (by omega) HZ4.out ?_; intro v5 w5 hr5 hb5 hx5)
        have hst : (List.range k).map ff ++ [⟨q, M, (k : Int), 5 + (k : Int), ⟨2, 1, 4, 4⟩⟩] = (List.range (k + 1)).map ff := by
          rw [List.range_succ, List.map_append, ← HFF.out, HQ.out]; rfl
        rw [hst] at hr5
        have HX5 := Lib.hid (hx5 gx _ (fun b hb => HVB.out b hb) HG4.out)
        have HR5 := Lib.hid hr5
        have HB6 : Hid (Below w.heap.size w w5) := HB5.out.trans (hb5.mono HW1.out)
        have HD6 := Lib.hid (HD4.out.below hb5 HDL.out.1 HDL.out.2.1 HDL.out.2.2)
        have HZ6 : Hid (w1.heap.size ≤ w5.heap.size) := Nat.le_trans HZ4.out hb5.size
        clear hst hr5 hb5 hx5 y0 y1 y2 y3 y4 y5 y6 y7 HX4 HR4 HG4 HB5 HD4 HZ4 HX3 HR3 HD3 HB4 HZ3 HFF
        obtain ⟨y0, y1, y2, y3, y4, y5, y6, y7⟩ := eight_cells HX5.out
        by_cases hke : k = n
        · subst hke
          obtain ⟨fs, e, HLI, HCA⟩ := HAL.out l q hat.out HQ.out
          have hee : ((k : Int) == (k : Int)) = true := by simp
          have hbk := HBK.out
          go_wp2_with fail
          refine (fuse_dev (kk : Int) (by omega) HD6.out).mono ?_
          rintro r w6 ⟨rfl, hd6, hk6⟩
          have HB7 := Lib.hid (dev_below HB6.out HDN.out hk6)
          have HD7 := Lib.hid hd6
          have HR7 := Lib.hid (HR5.out.kept hk6 HLT.out)
          have HZ7 : Hid (w1.heap.size ≤ w6.heap.size) := Nat.le_trans HZ6.out hk6.size
          have HX7 : Hid (w6.heap[gx]? = some (.cells #[.int .i64 q, .int .i64 M, .int .i64 (k : Int), .int .i64 (5 + (k : Int)), .int .i64 2, .int .i64 1, .int .i64 4, .int .i64 4] 34 (0, 0))) := (hk6.block gx (Array.getElem?_eq_some_iff.1 HX5.out).1 (HLT.out gx HGX.out)).trans HX5.out
          clear hd6 hk6 y0 y1 y2 y3 y4 y5 y6 y7 HX5 HR5 HB6 HD6 HZ6
          obtain ⟨y0, y1, y2, y3, y4, y5, y6, y7⟩ := eight_cells HX7.out
          have HCB := Lib.hid HCA
          clear HCA hbk
          have HLJ := HLI
          unfold LastIs at HLJ
          rcases HLJ with ⟨rfl, hdead, -⟩ | ⟨rfl, hdead, -⟩
          · have HLK := Lib.hid HLI
            clear HLI hdead
            go_wp2_with fail
            refine (HCB.out _ g cb mb HB7.out HD7.out).mono ?_
            rintro r w8 ⟨rfl, hd8, hk8⟩
            have HB9 := Lib.hid (dev_below HB7.out HDN.out hk8)
            have HD9 := Lib.hid hd8
            have HR9 := Lib.hid (HR7.out.kept hk8 HLT.out)
            have HZ9 : Hid (w1.heap.size ≤ w8.heap.size) := Nat.le_trans HZ7.out hk8.size
            clear hd8 hk8
            go_wp2_with fail
            go_roundw
            case rel => exact ⟨_, k + 1, l, fs, 0, rfl, by omega, by go_num, HR9, HD9, HB9, HZ9, .inr ⟨rfl, HLK⟩⟩
            case measure => simp [Go.RowKit.intOf] <;> omega
          · have HLK := Lib.hid HLI
            have HDE := Lib.hid hdead
            clear HLI hdead
            go_wp2_with fail
            refine (HCB.out _ g cb mb HB7.out HD7.out).mono ?_
            rintro r w8 ⟨rfl, hd8, hk8⟩
            have HB9 := Lib.hid (dev_below HB7.out HDN.out hk8)
            have HD9 := Lib.hid hd8
            have HR9 := Lib.hid (HR7.out.kept hk8 HLT.out)
            have HZ9 : Hid (w1.heap.size ≤ w8.heap.size) := Nat.le_trans HZ7.out hk8.size
            clear hd8 hk8
            have hda := dead_any HD9
            rw [HDE.out] at hda
            have HDA := Lib.hid hda
            clear hda
            go_wp2_with fail
            refine HDA.out.mono ?_
            rintro r w9 ⟨rfl, rfl⟩
            go_wp2_with fail
            go_roundw
            case rel => exact ⟨_, k + 1, l, fs, 1, rfl, by omega, by go_num, HR9, HD9, HB9, HZ9, .inr ⟨rfl, HLK⟩⟩
            case measure => simp [Go.RowKit.intOf] <;> omega
        · have hlt : k < n := by omega
          have hne : ((k : Int) == (n : Int)) = false := by rw [beq_eq_false_iff_ne]; omega
          go_wp2_with fail
          refine (HAP.out l k q (k : Int) (5 + (k : Int)) (by omega) (by omega) HQ.out rfl rfl _ g cb mb HB6.out HD6.out).mono ?_
          rintro r w6 ⟨rfl, hd6, hk6⟩
          have HB7 := Lib.hid (dev_below HB6.out HDN.out hk6)
          have HD7 := Lib.hid hd6
          have HR7 := Lib.hid (HR5.out.kept hk6 HLT.out)
          have HZ7 : Hid (w1.heap.size ≤ w6.heap.size) := Nat.le_trans HZ6.out hk6.size
          have HN7 := Lib.hid (Lg.at_next HM.out.1 (show k < 36 by omega) hat.out)
          clear hd6 hk6
          go_wp2_with fail
          go_roundw
          case rel => exact ⟨_, k + 1, _, _, 0, rfl, by omega, by go_num, HR7, HD7, HB7, HZ7, .inl ⟨by omega, rfl, HN7⟩⟩
          case measure => simp [Go.RowKit.intOf] <;> omega
    · subst hkn
      clear HAP HAL HO HA0 HB1 HD1 hbN hxn HBK hM HFF
      have BK : Hid (Bls (wr.alloc (.cells #[.bool y] 4)) (wr.alloc (.cells #[.bool y] 4)).heap.size (some ⟨wr.heap.size, 0, none⟩) [y]) := fun k hk => by
        obtain rfl : k = 0 := by simpa using hk
        refine ⟨_, rfl, by simp, ?_⟩
        rw [add_flat, cell_of_row _ _ _ _ _ _ (heap_alloc_new wr _)]; rfl
      have HB2 : Hid (Below w.heap.size w (wr.alloc (.cells #[.bool y] 4))) := hbel.out.alloc hbel.out.size _
      have HD2 : Hid (Dev (wr.alloc (.cells #[.bool y] 4)) g cb mb 80 fs) := hdv.out.on (bel_new _ _)
      have HR2 := Lib.hid (hrow.out.made (.cells #[.bool y] 4))
      have HLE := Lib.hid (hrow.out.length)
      clear hbel hdv hrow hsz
      go_wp2_with fail
      refine (crash_any _ none 1 1 0 0 [y] [] (by omega) rfl rfl BK (fun k hk => absurd hk (by simp)) HD2).mono ?_
      rintro r w3 ⟨g3, c3, m3, rfl, hd3, -, -, -, hb3⟩
      have HB3 := Lib.hid (HB2.out.trans (hb3.mono HB2.out.size))
      have HD3 := Lib.hid (HD2.out.on hb3)
      have HR3 := Lib.hid (HR2.out.stays hb3)
      have HC3 := Lib.hid (HRE.out w3 g3 c3 m3 _ HB3.out hd3)
      unfold LastIs at hlast
      have HPL := Lib.hid (Lg.replay_len (crashed 80 fs.cur fs.old [y] []) M)
      clear hb3 hd3 BK HB2 HD2 HR2 HRE
      generalize Lg.replay (crashed 80 fs.cur fs.old [y] []) M = ps at *
      go_wp2_with fail
      refine HC3.out.mono ?_
      rintro r w4 ⟨v4, rfl, hr4, hb4⟩
      have HB4 := Lib.hid (HB3.out.trans (hb4.mono HB3.out.size))
      have HD4 := Lib.hid (HD3.out.on hb4)
      have HR4 := Lib.hid (HR3.out.stays hb4)
      have HQ4 := Lib.hid hr4
      clear hr4 hb4 HC3 HB3 HD3 HR3
      go_wp2_with fail
      refine (dead_any HD4).mono ?_
      rintro r w5 ⟨rfl, rfl⟩
      have HAX := Lib.hid (HAW.out w4 HB4.out)
      obtain ⟨A1, c1, rfl, hs1, hp1⟩ := HR4.out.open_
      obtain ⟨A2, c2, rfl, hs2, hp2⟩ := HQ4.out.open_
      have HP1 := Lib.hid hp1
      have HP2 := Lib.hid hp2
      have HS1 := Lib.hid hs1
      have HEQ : Hid (∀ W, Below w4.heap.size w4 W → Calls Tryd.prog 16 #[.slice A2 ps.length c2, .slice A1 (n + 1) c1] W fun r w' => r = .returned (.bool (decide (ps = (List.range (n + 1)).map ff))) ∧ Below W.heap.size W w') := fun W hW =>
        refleq_any A2 A1 0 w4.heap.size ps.length (n + 1) c2 c1 ps _ W (show _ = _ from rfl) HLE.out (Nat.le_trans HPL.out (by decide)) (by omega) (Lib.hid ((HP2.out.below hW (Nat.le_refl _)).down (Nat.zero_le _))) (Lib.hid ((HP1.out.below hW (Nat.le_refl _)).down (Nat.zero_le _)))
      have HEN : Hid (∀ W, Below w4.heap.size w4 W → Calls Tryd.prog 16 #[.slice A2 ps.length c2, .slice A1 n c1] W fun r w' => r = .returned (.bool (decide (ps = (List.range n).map ff))) ∧ Below W.heap.size W w') := fun W hW => by
        have hpt := (HP1.out.below hW (Nat.le_refl _)).take n
        rw [← List.map_take, List.take_range, Nat.min_eq_left (Nat.le_succ n)] at hpt
        exact refleq_any A2 A1 0 w4.heap.size ps.length n c2 c1 ps _ W (show _ = _ from rfl) (map_len n) (Nat.le_trans HPL.out (by decide)) (by omega) (Lib.hid ((HP2.out.below hW (Nat.le_refl _)).down (Nat.zero_le _))) (Lib.hid (hpt.down (Nat.zero_le _)))
      clear hs1 hs2 hp1 hp2 HAW HR4 HQ4
      rcases hlast.out with ⟨rfl, hdead, hps⟩ | ⟨rfl, hdead, hps⟩
      · rw [hdead]
        have HE1 : Hid (decide (ps = (List.range (n + 1)).map ff) = true) := decide_eq_true hps
        rw [HE1.out] at HEQ
        clear hlast hdead hps HEN
        generalize ps.length = pn at *
        go_wp2_with fail
        refine HAX.out.mono ?_
        rintro r w6 ⟨rfl, hb6⟩
        have HB6 := Lib.hid (HB4.out.trans (hb6.mono HB4.out.size))
        have HC6 := Lib.hid (HEQ.out w6 hb6)
        clear hb6
        go_wp2_with fail
        refine HC6.out.mono ?_
        rintro r w7 ⟨rfl, hb7⟩
        have HB7 := Lib.hid (HB6.out.trans (hb7.mono HB6.out.size))
        clear hb7
        go_wp2_with fail
        go_ret
        exact ⟨rfl, HB7.out⟩
      · rw [hdead]
        rcases hps with hps | hps
        · have HE1 : Hid (decide (ps = (List.range (n + 1)).map ff) = true) := decide_eq_true hps
          rw [HE1.out] at HEQ
          clear hlast hdead hps HEN
          generalize ps.length = pn at *
          go_wp2_with fail
          refine HAX.out.mono ?_
          rintro r w6 ⟨rfl, hb6⟩
          have HB6 := Lib.hid (HB4.out.trans (hb6.mono HB4.out.size))
          have HC6 := Lib.hid (HEQ.out w6 hb6)
          clear hb6
          go_wp2_with fail
          refine HC6.out.mono ?_
          rintro r w7 ⟨rfl, hb7⟩
          have HB7 := Lib.hid (HB6.out.trans (hb7.mono HB6.out.size))
          clear hb7
          go_wp2_with fail
          go_ret
          exact ⟨rfl, HB7.out⟩
        · have HE1 : Hid (decide (ps = (List.range (n + 1)).map ff) = false) := decide_eq_false fun h => by
            have h1 := congrArg List.length (hps.symm.trans h)
            rw [map_len, map_len] at h1
            omega
          have HE2 : Hid (decide (ps = (List.range n).map ff) = true) := decide_eq_true hps
          rw [HE1.out] at HEQ
          rw [HE2.out] at HEN
          have hcn : n ≤ c1 := by have := HS1.out.2.1; omega
          clear hlast hdead hps
          generalize ps.length = pn at *
          go_wp2_with fail
          refine HAX.out.mono ?_
          rintro r w6 ⟨rfl, hb6⟩
          have HB6 := Lib.hid (HB4.out.trans (hb6.mono HB4.out.size))
          have HH6 := Lib.hid hb6
          have HC6 := Lib.hid (HEQ.out w6 hb6)
          clear hb6
          go_wp2_with fail
          refine HC6.out.mono ?_
          rintro r w7 ⟨rfl, hb7⟩
          have HB7 := Lib.hid (HB6.out.trans (hb7.mono HB6.out.size))
          have HC7 := Lib.hid (HEN.out w7 (HH6.out.trans (hb7.mono HH6.out.size)))
          clear hb7
          go_wp2_with fail
          refine HC7.out.mono ?_
          rintro r w8 ⟨rfl, hb8⟩
          have HB8 := Lib.hid (HB7.out.trans (hb8.mono HB7.out.size))
          clear hb8
          go_wp2_with fail
          go_ret
          exact ⟨rfl, HB8.out⟩
end Go.Proofs.YtpidbakjpfngnaaDoor
