/-
  The walk of the law LogFull.
-/
import Derived.Test.YtpidbakjpfngnaaDoorLgRound
set_option maxRecDepth 100000
namespace Go.Proofs.YtpidbakjpfngnaaDoor
open Go.RowKit
set_option maxHeartbeats 8000000 in
theorem logfull_any (m t : Int) (w : World) (ht : Hid (Tabs w)) :
    Calls Tryd.prog 7 #[.int .i64 m, .int .i64 t] w fun r w' => r = .returned (.bool true) ∧ Below w.heap.size w w' := by
  obtain ⟨N, hN, hbN⟩ := low7 m
  obtain ⟨T, hT, hbT⟩ := low1023 t
  obtain ⟨M, hM⟩ : ∃ M : Int, 1 + (N : Int) = M := ⟨_, rfl⟩
  have HM : Hid (1 ≤ M ∧ M ≤ 8) := ⟨by omega, by omega⟩
  have HT : Hid (∀ W, Below w.heap.size w W → Tabs W) := fun W hW => ht.out.next hW
  have HO : Hid (Lg.Own M (Lg.rec_ M fun j => (T : Int) + (j : Int))) := Lg.own_rec ⟨HM.out.1, by have := HM.out.2; omega⟩ fun j hj => ⟨by omega, by omega⟩
  have HAP := Lib.hid (fun l k q i tt => append_next HT.out HO.out l k k q i tt)
  have HBD : Hid (∀ W g c mb fs, Below w.heap.size w W → Dev W g c mb 80 fs → fs.wr < 4611686018427387904 → Calls Tryd.prog 12 #[.pointer (some ⟨g, 0, none⟩), .agg #[.int .i64 2, .int .i64 M, .int .i64 36, .int .i64 0, .int .i64 2, .int .i64 1, .int .i64 4, .int .i64 4]] W (WriteDid W g c mb 80 fs 4)) := fun W g c mb fs hW hd hwr => by
    have h := append_any 2 M 36 0 2 1 4 4 g c mb 80 fs W (Lib.hid (HT.out W hW)) hd hwr
    have hv : ¬ Pl.valid ⟨2, M, 36, 0, ⟨2, 1, 4, 4⟩⟩ := fun h => by have := (Lg.valid_at h).2.2; simp at this
    rwa [(Lg.app_bad hv fs).1, (Lg.app_bad hv fs).2] at h
  have HRE : Hid (∀ W g c mb l k, Below w.heap.size w W → Dev W g c mb 80 (Flash.clean l k false 0) → Calls Tryd.prog 17 #[.pointer (some ⟨g, 0, none⟩), .int .i64 M] W (RepIs W (Lg.replay l M))) := fun W g c mb l k hW hd =>
    replay_any M g c mb 80 _ W (by decide) (show _ = _ from rfl) (Lib.hid (HT.out W hW)) hd
  have HSE : Hid (∀ W, Calls Tryd.prog 8 #[.int .i64 M, .int .i64 36] W fun r w' => r = .returned (.int .i64 (-1)) ∧ W = w') := fun W => by
    have h := lgsector_any M 36 W
    rwa [Lg.sector_out (fun h => absurd h.2.2 (by decide))] at h
  have HAW : Hid (∀ W, Below w.heap.size w W → Calls Tryd.prog 10 #[] W fun r w' => r = .returned (.bool true) ∧ Below W.heap.size W w') := fun W hW => lgawake_any W (Lib.hid (HT.out W hW))
  clear ht HT
  unfold WriteDid at HAP HBD
  unfold RepIs at HRE
  go_enter Tryd.func7, Tryd.ntmps7
  go_wp2_with fail
  refine (new_dev 80 80 rfl _ (by decide) (by decide)).mono ?_
  rintro r w1 ⟨g, cb, mb, rfl, hd1, hdn, hb1⟩
  have HDN := Lib.hid hdn
  have HB1 := Lib.hid hb1
  have HD1 : Hid (Dev w1 g cb mb 80 (Flash.clean (List.replicate (80 * 64) 0) 0 false 0)) := hd1
  have HA1 : Hid (Lg.At (List.replicate (80 * 64) 0) M (Lg.rec_ M fun j => (T : Int) + (j : Int)) 0) := Lg.at_start M HM.out.1 _
  clear hd1 hdn hb1
  generalize List.replicate (80 * 64) 0 = l0 at *
  go_wp2_with fail
  go_loopw [6] (fun iv wr => ∃ (k : Nat) (l : List Nat), k ≤ 36 ∧ iv = .int .i64 (k : Int) ∧ Hid (Lg.At l M (Lg.rec_ M fun j => (T : Int) + (j : Int)) k) ∧ Hid (Dev wr g cb mb 80 (Flash.clean l k false 0)) ∧ Hid (Below w.heap.size w wr)) (fun i _ => 36 - (Go.RowKit.intOf i).toNat)
  case atStart => exact ⟨0, l0, by decide, rfl, HA1, HD1, HB1⟩
  case round =>
    obtain ⟨k, l, hk, rfl, hat, hdv, hbel⟩ := hrel
    by_cases hlt : k < 36
    · go_wp2_with fail
      refine (lgtarget_any _).mono ?_
      rintro r w2 ⟨rfl, hb2⟩
      have HB2 := Lib.hid (hbel.out.trans (hb2.mono hbel.out.size))
      have HD2 := Lib.hid (hdv.out.on hb2)
      clear hb2 hbel hdv
      by_cases hk0 : k = 0
      · subst hk0
        have HB3 : Hid (Below w.heap.size w (w2.alloc (.cells #[.int .i64 1, .int .i64 M, .int .i64 0, .int .i64 (T : Int), .int .i64 2, .int .i64 1, .int .i64 4, .int .i64 4] 34))) := HB2.out.alloc HB2.out.size _
        have HD3 : Hid (Dev (w2.alloc (.cells #[.int .i64 1, .int .i64 M, .int .i64 0, .int .i64 (T : Int), .int .i64 2, .int .i64 1, .int .i64 4, .int .i64 4] 34)) g cb mb 80 _) := HD2.out.on (bel_new _ _)
        go_wp2_with fail
        refine (HAP.out l 0 1 0 (T : Int) (by omega) (by omega) rfl rfl (by simp) _ g cb mb HB3.out HD3.out).mono ?_
        rintro r w4 ⟨rfl, hd4, hk4⟩
        have HB4 := Lib.hid (dev_below HB3.out HDN.out hk4)
        have HD4 := Lib.hid hd4
        have HN4 := Lib.hid (Lg.at_next HM.out.1 hlt hat.out)
        clear hd4 hk4 HB3 HD3 HB2 HD2 hat
        go_wp2_with fail
        go_roundw
        case rel => exact ⟨0 + 1, _, by omega, by go_num, HN4, HD4, HB4⟩
        case measure => simp [Go.RowKit.intOf] <;> omega
      · have HB3 : Hid (Below w.heap.size w (w2.alloc (.cells #[.int .i64 2, .int .i64 M, .int .i64 (k : Int), .int .i64 ((T : Int) + (k : Int)), .int .i64 2, .int .i64 1, .int .i64 4, .int .i64 4] 34))) := HB2.out.alloc HB2.out.size _
        have HD3 : Hid (Dev (w2.alloc (.cells #[.int .i64 2, .int .i64 M, .int .i64 (k : Int), .int .i64 ((T : Int) + (k : Int)), .int .i64 2, .int .i64 1, .int .i64 4, .int .i64 4] 34)) g cb mb 80 _) := HD2.out.on (bel_new _ _)
        have hkz : ((k : Int) == 0) = false := by rw [beq_eq_false_iff_ne]; omega
        go_wp2_with fail
        refine (HAP.out l k 2 (k : Int) ((T : Int) + (k : Int)) (by omega) (by omega) (by rw [if_neg hk0]) rfl rfl _ g cb mb HB3.out HD3.out).mono ?_
        rintro r w4 ⟨rfl, hd4, hk4⟩
        have HB4 := Lib.hid (dev_below HB3.out HDN.out hk4)
        have HD4 := Lib.hid hd4
        have HN4 := Lib.hid (Lg.at_next HM.out.1 hlt hat.out)
        clear hd4 hk4 HB3 HD3 HB2 HD2 hat
        go_wp2_with fail
        go_roundw
        case rel => exact ⟨k + 1, _, by omega, by go_num, HN4, HD4, HB4⟩
        case measure => simp [Go.RowKit.intOf] <;> omega
    · obtain rfl : k = 36 := by omega
      have HR := Lib.hid (Lg.at_replay HO.out (Nat.le_refl _) hat.out)
      have HRC := Lib.hid (HRE.out wr g cb mb l 36 hbel.out hdv.out)
      rw [HR.out] at HRC
      clear HR hat HAP HRE HO HA1 HB1 HD1
      go_wp2_with fail
      refine HRC.out.mono ?_
      rintro r w5 ⟨v5, rfl, hr5, hb5⟩
      have hlen : ((List.range 36).map (Lg.rec_ M fun j => (T : Int) + (j : Int))).length = 36 := map_len 36
      rw [hlen] at hr5
      obtain ⟨A5, c5, rfl, hs5, hp5⟩ := hr5.open_
      have HS5 := Lib.hid hs5
      have HP5 := Lib.hid hp5
      have HB5 := Lib.hid (hbel.out.trans (hb5.mono hbel.out.size))
      have HD5 := Lib.hid (hdv.out.on hb5)
      have HLN := Lib.hid hlen
      clear hr5 hb5 hs5 hp5 hlen hbel hdv HRC
      obtain ⟨ad, rfl⟩ := pls_some (k := 0) HP5.out (by rw [HLN.out]; decide)
      go_wp2_with fail
      go_loopw [39] (fun iv wx => ∃ k : Nat, k ≤ 36 ∧ iv = .int .i64 (k : Int) ∧ wx = w5) (fun i _ => 36 - (Go.RowKit.intOf i).toNat)
      case atStart => exact ⟨0, by decide, rfl, rfl⟩
      case round =>
        obtain ⟨k, hk, rfl, rfl⟩ := hrel
        by_cases hlt : k < 36
        · obtain ⟨m0, m1, m2, m3, -⟩ := HP5.out.at k (by rw [HLN.out]; exact hlt) _ (recs_map_at hlt)
          simp only [Lg.rec_] at m2 m3
          have e1 : ((k : Int) != (k : Int)) = false := by simp
          have e2 : ((T : Int) + (k : Int) != (T : Int) + (k : Int)) = false := by simp
          clear m0 m1
          go_wp2_with fail
          go_roundw
          case rel => exact ⟨k + 1, by omega, by go_num, by first | exact rfl | trivial⟩
          case measure => simp [Go.RowKit.intOf] <;> omega
        · obtain rfl : k = 36 := by omega
          go_wp2_with fail
          refine (HAW.out _ HB5.out).mono ?_
          rintro r w6 ⟨rfl, hb6⟩
          have HB6 := Lib.hid (HB5.out.trans (hb6.mono HB5.out.size))
          have HD6 := Lib.hid (HD5.out.on hb6)
          clear hb6
          go_wp2_with fail
          refine (HSE.out _).mono ?_
          rintro r w7 ⟨rfl, rfl⟩
          go_wp2_with fail
          refine (lgtarget_any _).mono ?_
          rintro r w8 ⟨rfl, hb8⟩
          have HB8 := Lib.hid (HB6.out.trans (hb8.mono HB6.out.size))
          have HD8 := Lib.hid (HD6.out.on hb8)
          clear hb8
          go_wp2_with fail
          refine (HBD.out _ g cb mb _ HB8.out HD8.out (show (36 : Nat) < _ by decide)).mono ?_
          rintro r w9 ⟨rfl, hd9, hk9⟩
          have HB9 := Lib.hid (dev_below HB8.out HDN.out hk9)
          clear hd9 hk9
          go_wp2_with fail
          go_ret
          exact ⟨rfl, HB9.out⟩
end Go.Proofs.YtpidbakjpfngnaaDoor
