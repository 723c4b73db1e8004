/-
  The walk of the law LogApart.
-/
import Derived.Test.YtpidbakjpfngnaaDoorLgRound
set_option maxRecDepth 100000
namespace Go.Proofs.YtpidbakjpfngnaaDoor
open Go.RowKit
set_option maxHeartbeats 16000000 in
theorem logapart_any (m x y : Int) (w : World) (ht : Hid (Tabs w)) :
    Calls Tryd.prog 6 #[.int .i64 m, .int .i64 x, .int .i64 y] w fun r w' => r = .returned (.bool true) ∧ Below w.heap.size w w' := by
  obtain ⟨N, hN, hbN⟩ := low7 m
  obtain ⟨a, ha, hxa⟩ := lg_mod x 36 (by decide) (by decide)
  obtain ⟨b, hb, hyb⟩ := lg_mod y 36 (by decide) (by decide)
  obtain ⟨M, hM⟩ : ∃ M : Int, 1 + (N : Int) = M := ⟨_, rfl⟩
  have hM1 : 1 ≤ M := by omega
  have hM8 : M ≤ 8 := by omega
  have HT : Hid (∀ W, Below w.heap.size w W → Tabs W) := fun W hW => ht.out.next hW
  have HO : Hid (Lg.Own M (Lg.rec_ M fun _ => 0)) := Lg.own_rec ⟨hM1, by omega⟩ fun j hj => ⟨by decide, by decide⟩
  have HO' : Hid (Lg.Own (M + 1) (Lg.rec_ (M + 1) fun _ => 0)) := Lg.own_rec ⟨by omega, by omega⟩ fun j hj => ⟨by decide, by decide⟩
  have HAP := Lib.hid (fun l k wr q i tt => append_next HT.out HO.out l k wr q i tt)
  have HAP' := Lib.hid (fun l k wr q i tt => append_next HT.out HO'.out l k wr q i tt)
  have HRE : Hid (∀ W g c mb l k z, Below w.heap.size w W → Dev W g c mb 80 (Flash.clean l k false 0) → Calls Tryd.prog 17 #[.pointer (some ⟨g, 0, none⟩), .int .i64 z] W (RepIs W (Lg.replay l z))) := fun W g c mb l k z hW hd =>
    replay_any z g c mb 80 _ W (by decide) (show _ = _ from rfl) (Lib.hid (HT.out W hW)) hd
  have HAW : Hid (∀ W, Below w.heap.size w W → Calls Tryd.prog 10 #[] W fun r w' => r = .returned (.bool true) ∧ Below W.heap.size W w') := fun W hW => lgawake_any W (Lib.hid (HT.out W hW))
  clear ht HT
  unfold WriteDid at HAP HAP'
  unfold RepIs at HRE
  generalize hff : (Lg.rec_ M fun _ => 0) = ff at *
  generalize hgg : (Lg.rec_ (M + 1) fun _ => 0) = gg at *
  clear hff hgg
  go_enter Tryd.func6, Tryd.ntmps6
  go_wp2_with fail
  refine (new_dev 80 80 rfl _ (by decide) (by decide)).mono ?_
  rintro r w1 ⟨g, cb, mb, rfl, hd1, hdn, hb1⟩
  have HDN := Lib.hid hdn
  have HB1 := Lib.hid hb1
  have HD1 : Hid (Dev w1 g cb mb 80 (Flash.clean (List.replicate (80 * 64) 0) 0 false 0)) := hd1
  have HA1 : Hid (Lg.At (List.replicate (80 * 64) 0) M ff 0) := Lg.at_start M hM1 _
  have HA1' : Hid (Lg.At (List.replicate (80 * 64) 0) (M + 1) gg 0) := Lg.at_start (M + 1) (by omega) _
  clear hd1 hdn hb1
  generalize List.replicate (80 * 64) 0 = l0 at *
  go_wp2_with fail
  go_loopw [8] (fun iv wr => ∃ (k : Int) (p q c : Nat) (l : List Nat), (k = 0 ∧ p = 0 ∧ q = 0 ∨ k = 1 ∧ a = p ∧ q = 0 ∨ k = 2 ∧ a = p ∧ b = q) ∧ c = p + q ∧ iv = .int .i64 k ∧ Hid (Lg.At l M ff p) ∧ Hid (Lg.At l (M + 1) gg q) ∧ Hid (Dev wr g cb mb 80 (Flash.clean l c false 0)) ∧ Hid (Below w.heap.size w wr)) (fun i _ => 2 - (Go.RowKit.intOf i).toNat)
  case atStart => exact ⟨0, 0, 0, 0, l0, .inl ⟨rfl, rfl, rfl⟩, rfl, rfl, HA1, HA1', HD1, HB1⟩
  case round =>
    obtain ⟨k, p, q, c, l, hway, rfl, rfl, hat, hat', hdv, hbel⟩ := hrel
    rcases hway with ⟨rfl, rfl, rfl⟩ | ⟨rfl, rfl, rfl⟩ | ⟨rfl, rfl, rfl⟩
    · clear HA1 HA1' HB1 HD1 hxa hyb hbN
      go_wp2_with fail
      go_loopw [9] (fun iv wr => ∃ (j : Nat) (l : List Nat), j ≤ a ∧ iv = .int .i64 (j : Int) ∧ Hid (Lg.At l M ff j) ∧ Hid (Lg.At l (M + 1) gg 0) ∧ Hid (Dev wr g cb mb 80 (Flash.clean l (j + 0) false 0)) ∧ Hid (Below w.heap.size w wr)) (fun i _ => a - (Go.RowKit.intOf i).toNat)
      case atStart => exact ⟨0, l, Nat.zero_le _, rfl, hat, hat', hdv, hbel⟩
      case round =>
        clear hat hat' hdv hbel
        obtain ⟨j, l, hj, rfl, hat, hat', hdv, hbel⟩ := hrel
        have HB2 : Hid (Below w.heap.size w (wr.alloc (.cells #[.int .i64 (a : Int), .int .i64 (b : Int)] 3))) := hbel.out.alloc hbel.out.size _
        have HD2 : Hid (Dev (wr.alloc (.cells #[.int .i64 (a : Int), .int .i64 (b : Int)] 3)) g cb mb 80 _) := hdv.out.on (bel_new _ _)
        by_cases hlt : j < a
        · clear hbel hdv
          go_wp2_with fail
          refine (lgtarget_any _).mono ?_
          rintro r w3 ⟨rfl, hb3⟩
          have HB3 := Lib.hid (HB2.out.trans (hb3.mono HB2.out.size))
          have HD3 := Lib.hid (HD2.out.on hb3)
          clear hb3 HB2 HD2
          by_cases hj0 : j = 0
          · subst hj0
            have HB4 : Hid (Below w.heap.size w (w3.alloc (.cells #[.int .i64 1, .int .i64 (M), .int .i64 0, .int .i64 0, .int .i64 2, .int .i64 1, .int .i64 4, .int .i64 4] 34))) := HB3.out.alloc HB3.out.size _
            have HD4 : Hid (Dev (w3.alloc (.cells #[.int .i64 1, .int .i64 (M), .int .i64 0, .int .i64 0, .int .i64 2, .int .i64 1, .int .i64 4, .int .i64 4] 34)) g cb mb 80 _) := HD3.out.on (bel_new _ _)
            go_wp2_with fail
            refine (HAP.out l 0 (0 + 0) 1 0 0 (by omega) (by omega) rfl rfl rfl _ g cb mb HB4.out HD4.out).mono ?_
            rintro r w5 ⟨rfl, hd5, hk5⟩
            have HB5 := Lib.hid (dev_below HB4.out HDN.out hk5)
            have HD5 := Lib.hid hd5
            have HN5 := Lib.hid (Lg.at_next hM1 (by omega) hat.out)
            have HN5' := Lib.hid (Lg.at_other (i := 0) (f' := ff) (m' := M) (by omega) (.inr rfl) hM1 (by omega) hat'.out)
            clear hd5 hk5 HB4 HD4 HB3 HD3 hat hat'
            go_wp2_with fail
            go_roundw
            case rel => exact ⟨0 + 1, _, by omega, by go_num, HN5, HN5', by first | exact HD5 | (rw [show 0 + 1 + 0 = 0 + 0 + 1 by omega]; exact HD5), HB5⟩
            case measure => simp [Go.RowKit.intOf] <;> omega
          · have HB4 : Hid (Below w.heap.size w (w3.alloc (.cells #[.int .i64 2, .int .i64 (M), .int .i64 (j : Int), .int .i64 0, .int .i64 2, .int .i64 1, .int .i64 4, .int .i64 4] 34))) := HB3.out.alloc HB3.out.size _
            have HD4 : Hid (Dev (w3.alloc (.cells #[.int .i64 2, .int .i64 (M), .int .i64 (j : Int), .int .i64 0, .int .i64 2, .int .i64 1, .int .i64 4, .int .i64 4] 34)) g cb mb 80 _) := HD3.out.on (bel_new _ _)
            have hkz : ((j : Int) == 0) = false := by rw [beq_eq_false_iff_ne]; omega
            go_wp2_with fail
            refine (HAP.out l j (j + 0) 2 (j : Int) 0 (by omega) (by omega) (by rw [if_neg hj0]) rfl rfl _ g cb mb HB4.out HD4.out).mono ?_
            rintro r w5 ⟨rfl, hd5, hk5⟩
            have HB5 := Lib.hid (dev_below HB4.out HDN.out hk5)
            have HD5 := Lib.hid hd5
            have HN5 := Lib.hid (Lg.at_next hM1 (by omega) hat.out)
            have HN5' := Lib.hid (Lg.at_other (i := j) (f' := ff) (m' := M) (by omega) (.inr rfl) hM1 (by omega) hat'.out)
            clear hd5 hk5 HB4 HD4 HB3 HD3 hat hat'
            go_wp2_with fail
            go_roundw
            case rel => exact ⟨j + 1, _, by omega, by go_num, HN5, HN5', by first | exact HD5 | (rw [show j + 1 + 0 = j + 0 + 1 by omega]; exact HD5), HB5⟩
            case measure => simp [Go.RowKit.intOf] <;> omega
        · obtain rfl : a = j := by omega
          go_wp2_with fail
          go_roundw
          case rel => exact ⟨1, a, 0, _, l, .inr (.inl ⟨rfl, rfl, rfl⟩), rfl, by go_num, hat, hat', HD2, HB2⟩
          case measure => simp [Go.RowKit.intOf] <;> omega
    · clear HA1 HA1' HB1 HD1 hxa hyb hbN
      go_wp2_with fail
      go_loopw [9] (fun iv wr => ∃ (j : Nat) (l : List Nat), j ≤ b ∧ iv = .int .i64 (j : Int) ∧ Hid (Lg.At l M ff a) ∧ Hid (Lg.At l (M + 1) gg j) ∧ Hid (Dev wr g cb mb 80 (Flash.clean l (a + j) false 0)) ∧ Hid (Below w.heap.size w wr)) (fun i _ => b - (Go.RowKit.intOf i).toNat)
      case atStart => exact ⟨0, l, Nat.zero_le _, rfl, hat, hat', hdv, hbel⟩
      case round =>
        clear hat hat' hdv hbel
        obtain ⟨j, l, hj, rfl, hat, hat', hdv, hbel⟩ := hrel
        have HB2 : Hid (Below w.heap.size w (wr.alloc (.cells #[.int .i64 (a : Int), .int .i64 (b : Int)] 3))) := hbel.out.alloc hbel.out.size _
        have HD2 : Hid (Dev (wr.alloc (.cells #[.int .i64 (a : Int), .int .i64 (b : Int)] 3)) g cb mb 80 _) := hdv.out.on (bel_new _ _)
        by_cases hlt : j < b
        · clear hbel hdv
          go_wp2_with fail
          refine (lgtarget_any _).mono ?_
          rintro r w3 ⟨rfl, hb3⟩
          have HB3 := Lib.hid (HB2.out.trans (hb3.mono HB2.out.size))
          have HD3 := Lib.hid (HD2.out.on hb3)
          clear hb3 HB2 HD2
          by_cases hj0 : j = 0
          · subst hj0
            have HB4 : Hid (Below w.heap.size w (w3.alloc (.cells #[.int .i64 1, .int .i64 (M + 1), .int .i64 0, .int .i64 0, .int .i64 2, .int .i64 1, .int .i64 4, .int .i64 4] 34))) := HB3.out.alloc HB3.out.size _
            have HD4 : Hid (Dev (w3.alloc (.cells #[.int .i64 1, .int .i64 (M + 1), .int .i64 0, .int .i64 0, .int .i64 2, .int .i64 1, .int .i64 4, .int .i64 4] 34)) g cb mb 80 _) := HD3.out.on (bel_new _ _)
            go_wp2_with fail
            refine (HAP'.out l 0 (a + 0) 1 0 0 (by omega) (by omega) rfl rfl rfl _ g cb mb HB4.out HD4.out).mono ?_
            rintro r w5 ⟨rfl, hd5, hk5⟩
            have HB5 := Lib.hid (dev_below HB4.out HDN.out hk5)
            have HD5 := Lib.hid hd5
            have HN5 := Lib.hid (Lg.at_other (i := 0) (f' := gg) (m' := M + 1) hM1 (.inl rfl) (by omega) (by omega) hat.out)
            have HN5' := Lib.hid (Lg.at_next (by omega) (by omega) hat'.out)
            clear hd5 hk5 HB4 HD4 HB3 HD3 hat hat'
            go_wp2_with fail
            go_roundw
            case rel => exact ⟨0 + 1, _, by omega, by go_num, HN5, HN5', by first | exact HD5 | (rw [show a + (0 + 1) = a + 0 + 1 by omega]; exact HD5), HB5⟩
            case measure => simp [Go.RowKit.intOf] <;> omega
          · have HB4 : Hid (Below w.heap.size w (w3.alloc (.cells #[.int .i64 2, .int .i64 (M + 1), .int .i64 (j : Int), .int .i64 0, .int .i64 2, .int .i64 1, .int .i64 4, .int .i64 4] 34))) := HB3.out.alloc HB3.out.size _
            have HD4 : Hid (Dev (w3.alloc (.cells #[.int .i64 2, .int .i64 (M + 1), .int .i64 (j : Int), .int .i64 0, .int .i64 2, .int .i64 1, .int .i64 4, .int .i64 4] 34)) g cb mb 80 _) := HD3.out.on (bel_new _ _)
            have hkz : ((j : Int) == 0) = false := by rw [beq_eq_false_iff_ne]; omega
            go_wp2_with fail
            refine (HAP'.out l j (a + j) 2 (j : Int) 0 (by omega) (by omega) (by rw [if_neg hj0]) rfl rfl _ g cb mb HB4.out HD4.out).mono ?_
            rintro r w5 ⟨rfl, hd5, hk5⟩
            have HB5 := Lib.hid (dev_below HB4.out HDN.out hk5)
            have HD5 := Lib.hid hd5
            have HN5 := Lib.hid (Lg.at_other (i := j) (f' := gg) (m' := M + 1) hM1 (.inl rfl) (by omega) (by omega) hat.out)
            have HN5' := Lib.hid (Lg.at_next (by omega) (by omega) hat'.out)
            clear hd5 hk5 HB4 HD4 HB3 HD3 hat hat'
            go_wp2_with fail
            go_roundw
            case rel => exact ⟨j + 1, _, by omega, by go_num, HN5, HN5', by first | exact HD5 | (rw [show a + (j + 1) = a + j + 1 by omega]; exact HD5), HB5⟩
            case measure => simp [Go.RowKit.intOf] <;> omega
        · obtain rfl : b = j := by omega
          go_wp2_with fail
          go_roundw
          case rel => exact ⟨2, a, b, _, l, .inr (.inr ⟨rfl, rfl, rfl⟩), rfl, by go_num, hat, hat', HD2, HB2⟩
          case measure => simp [Go.RowKit.intOf] <;> omega
    · have HR := Lib.hid (Lg.at_replay HO.out (by omega) hat.out)
      have HR' := Lib.hid (Lg.at_replay HO'.out (by omega) hat'.out)
      clear hat hat' HAP HAP' HO HO' HA1 HA1' HB1 HD1 hxa hyb hbN hM
      go_wp2_with fail
      refine (HAW.out _ hbel.out).mono ?_
      rintro r w6 ⟨rfl, hb6⟩
      have HB6 := Lib.hid (hbel.out.trans (hb6.mono hbel.out.size))
      have HD6 := Lib.hid (hdv.out.on hb6)
      clear hb6 hbel hdv
      go_wp2_with fail
      refine (HRE.out _ g cb mb l _ M HB6.out HD6.out).mono ?_
      rintro r w7 ⟨v7, rfl, hr7, hb7⟩
      rw [HR.out, map_len] at hr7
      obtain ⟨A7, c7, rfl, hs7, -⟩ := hr7.open_
      have HB7 := Lib.hid (HB6.out.trans (hb7.mono HB6.out.size))
      have HD7 := Lib.hid (HD6.out.on hb7)
      have HS7 := Lib.hid hs7
      clear hr7 hb7 hs7
      go_wp2_with fail
      refine (HRE.out _ g cb mb l _ (M + 1) HB7.out HD7.out).mono ?_
      rintro r w8 ⟨v8, rfl, hr8, hb8⟩
      rw [HR'.out, map_len] at hr8
      obtain ⟨A8, c8, rfl, hs8, -⟩ := hr8.open_
      have HB8 := Lib.hid (HB7.out.trans (hb8.mono HB7.out.size))
      have HS8 := Lib.hid hs8
      clear hr8 hb8 hs8
      go_wp2_with fail
      go_ret
      exact ⟨rfl, HB8.out⟩
end Go.Proofs.YtpidbakjpfngnaaDoor
