/-
  The definition's Touch and Estimate.
-/
import Derived.Test.YtbhmlfgofemjlaaSkTouch
set_option maxRecDepth 100000
namespace Go.Proofs.Ytbhmlfgofemjlaa
open Go.RowKit
set_option maxHeartbeats 1000000 in
theorem refsktouch_any (q N : Nat) (s : Sk.St) (w : World) (hN : N < 18446744073709551616) (hn : s.n < 1000000) (H : Hid (SkIn 30 .i64 w q s)) :
    Calls Try.prog 8 #[.pointer (some ⟨q, 0, none⟩), .int .u64 (N : Int)] w fun e w' => e = .returned (.tuple #[]) ∧ SkIn 30 .i64 w' q (Sk.touch s N) ∧ On q w w' := by
  go_enter Try.func8, Try.ntmps8
  go_wp2_with fail
  go_loopw [4] (fun iv wr => ∃ k : Nat, k ≤ 4 ∧ iv = .int .i64 (k : Int) ∧ Hid (SkIn 30 .i64 wr q ⟨Sk.bt s.c N k, s.n⟩) ∧ Hid (On q w wr)) (fun i _ => 4 - (intOf i).toNat)
  case atStart => exact ⟨0, by omega, rfl, H, On.refl _ _⟩
  case round =>
    obtain ⟨k, hk, rfl, HS, HO⟩ := hrel
    by_cases hlt : k < 4
    · have C := Lib.hid (skrefrow_any N hN (k : Int) wr)
      have HAL := Lib.hid (Sk.at_lt (h := N) hlt)
      have hr := Key.row_lt N (k : Int)
      have HA : Hid (Sk.at_ N k = k * 64 + Key.row N (k : Int)) := rfl
      have HD : Hid (Sk.bt s.c N (k + 1) = (Sk.bt s.c N k).set (Sk.at_ N k) (min (Sk.g (Sk.bt s.c N k) (Sk.at_ N k) + 1) 15)) := rfl
      have c0 := HS.out.cell (Sk.at_ N k) HAL.out
      have f0 := HS.out.frozen (Sk.at_ N k)
      have hx := HS.out.le (Sk.at_ N k)
      have HN := Lib.hid (fun x hx => HS.out.set (j := Sk.at_ N k) (x := x) HAL.out hx)
      have HON := Lib.hid (fun v => HO.out.set (Sk.at_ N k) v)
      obtain ⟨x, hgx⟩ : ∃ x, Sk.g (Sk.bt s.c N k) (Sk.at_ N k) = x := ⟨_, rfl⟩
      simp only [hgx] at c0 hx
      rw [hgx] at HD
      clear hgx
      rw [HA.out] at HD c0 f0 HN HON
      generalize Key.row N (k : Int) = r at *
      obtain ⟨y, hy⟩ : ∃ y, min (x + 1) 15 = y := ⟨_, rfl⟩
      have hmin : (if (15 : Int) < (x : Int) + 1 then (15 : Int) else (x : Int) + 1) = (y : Int) := by split <;> omega
      have HY : Hid (y ≤ 15) := by show _ ≤ _; omega
      rw [hy] at HD
      clear hy HA HAL
      go_wp2_with fail
      refine C.out.mono ?_
      rintro e w2 ⟨rfl, rfl⟩
      clear C
      go_wp2_with fail
      go_region
      go_wp2_with fail
      go_roundw
      case rel => exact ⟨k + 1, by omega, by go_num, (by rw [HD.out]; exact (HN.out y HY.out).drew), (HON.out _).drew⟩
      case measure => simp [intOf]; omega
    · obtain rfl : k = 4 := by omega
      have c1 := HS.out.num
      have f1 := HS.out.frozen 256
      rw [Sk.bt_four] at HS
      have HN := Lib.hid (HS.out.setN (s.n + 1))
      have HON := Lib.hid (HO.out.set 256 (.int .i64 (((s.n + 1 : Nat)) : Int)))
      have hsn : (((s.n + 1 : Nat)) : Int) = (s.n : Int) + 1 := by omega
      rw [hsn] at HN HON
      have c2 := HN.out.num
      simp only [hsn] at c2
      have HT : Hid (Sk.touch s N = if s.n + 1 = 640 then ⟨Sk.halve (Sk.bump s.c N), 320⟩ else ⟨Sk.bump s.c N, s.n + 1⟩) := rfl
      clear hsn
      by_cases h640 : s.n + 1 = 640
      · rw [if_pos h640] at HT
        have hs2 : (s.n : Int) = 639 := by omega
        have HX : Hid (SkIn 30 .i64 (wr.setCell ⟨q, 256, none⟩ (.int .i64 640)) q ⟨Sk.bump s.c N, 640⟩) := HS.out.setN 640
        have HXO : Hid (On q w (wr.setCell ⟨q, 256, none⟩ (.int .i64 640))) := HO.out.set 256 _
        have c3 := HX.out.num
        simp only [hs2] at c1
        clear HN HON c2
        have HCL : Hid (Sk.bump s.c N = Sk.ht (Sk.bump s.c N) (0 * 64)) := rfl
        have HLC : Hid ((Sk.bump s.c N).length = 256) := (Sk.bump_length _ _).trans H.out.len
        rw [HCL.out] at HX
        generalize Sk.bump s.c N = c at *
        clear HCL
        go_wp2_with fail
        clear c1 f1 c3 HS HO h640 hs2
        generalize wr.setCell ⟨q, 256, none⟩ (.int .i64 640) = w1 at *
        go_loopw [6] (fun iv wr => ∃ k : Nat, k ≤ 4 ∧ iv = .int .i64 (k : Int) ∧ Hid (SkIn 30 .i64 wr q ⟨Sk.ht c (k * 64), 640⟩) ∧ Hid (On q w wr)) (fun i _ => 4 - (intOf i).toNat)
        case atStart => exact ⟨0, by omega, rfl, HX, HXO⟩
        case round =>
          obtain ⟨k, hk, rfl, HS, HO⟩ := hrel
          by_cases hlt : k < 4
          · have hkd : decide ((k : Int) < 4) = true := decide_eq_true (by omega)
            go_wp2_with fail
            clear hkd
            go_loopw [7] (fun jv wx => ∃ j : Nat, j ≤ 64 ∧ jv = .int .i64 (j : Int) ∧ Hid (SkIn 30 .i64 wx q ⟨Sk.ht c (k * 64 + j), 640⟩) ∧ Hid (On q w wx)) (fun i _ => 64 - (intOf i).toNat)
            case atStart => exact ⟨0, by omega, rfl, HS, HO⟩
            case round =>
              obtain ⟨j, hj, rfl, HS2, HO2⟩ := hrel
              by_cases hlt2 : j < 64
              · have c0 := HS2.out.cell (k * 64 + j) (by omega)
                have f0 := HS2.out.frozen (k * 64 + j)
                have hx := HS2.out.le (k * 64 + j)
                have HN := Lib.hid (fun x hx => HS2.out.set (j := k * 64 + j) (x := x) (by omega) hx)
                have HON := Lib.hid (fun v => HO2.out.set (k * 64 + j) v)
                have HD : Hid (Sk.ht c (k * 64 + (j + 1)) = (Sk.ht c (k * 64 + j)).set (k * 64 + j) (Sk.g (Sk.ht c (k * 64 + j)) (k * 64 + j) / 2)) := rfl
                obtain ⟨x, hgx⟩ : ∃ x, Sk.g (Sk.ht c (k * 64 + j)) (k * 64 + j) = x := ⟨_, rfl⟩
                obtain ⟨y, hy⟩ : ∃ y, x / 2 = y := ⟨_, rfl⟩
                simp only [hgx] at c0 hx
                rw [hgx, hy] at HD
                have hxy : (x : Int) / 2 = (y : Int) := by omega
                have hyl : y ≤ 15 := by omega
                have HY := Lib.hid hyl
                clear hgx hy
                go_upto_region 13 with fail
                go_region
                go_wp2_with fail
                go_roundw
                case rel => exact ⟨j + 1, by omega, by go_num, (by rw [HD.out]; exact (HN.out y HY.out).drew), (HON.out _).drew⟩
                case measure => simp [intOf]; omega
              · obtain rfl : j = 64 := by omega
                go_wp2_with fail
                exact ⟨⟨k + 1, by omega, by go_num, (by rw [show (k + 1) * 64 = k * 64 + 64 by omega]; exact HS2), HO2⟩, by simp [intOf]; omega⟩
          · obtain rfl : k = 4 := by omega
            have c1 := HS.out.num
            have f1 := HS.out.frozen 256
            have he := Sk.ht_all c
            rw [HLC.out] at he
            have HS : Hid (SkIn 30 .i64 wr q ⟨Sk.halve c, 640⟩) := by
              have := HS.out
              rw [show 4 * 64 = 256 from rfl, he] at this
              exact this
            clear he
            have HN := Lib.hid (HS.out.setN 320)
            have HON := Lib.hid (HO.out.set 256 (.int .i64 ((320 : Nat) : Int)))
            go_wp2_with fail
            go_end0
            rw [HT.out]
            exact ⟨rfl, HN.out, HON.out⟩
      · rw [if_neg h640] at HT
        go_wp2_with fail
        go_end0
        rw [HT.out]
        exact ⟨rfl, HN.out, HON.out⟩
set_option maxHeartbeats 1000000 in
theorem refskest_any (q N : Nat) (s : Sk.St) (w : World) (hN : N < 18446744073709551616) (H : Hid (SkIn 30 .i64 w q s)) :
    Calls Try.prog 11 #[.pointer (some ⟨q, 0, none⟩), .int .u64 (N : Int)] w fun e w' => e = .returned (.int .i64 (Sk.est s N : Int)) ∧ ∃ n, w' = w.drewN n := by
  go_enter Try.func11, Try.ntmps11
  go_wp2_with fail
  go_loopw [5, 6] (fun ev iv wr => ∃ k : Nat, k ≤ 4 ∧ iv = .int .i64 (k : Int) ∧ ev = .int .i64 (Sk.et s.c N k : Int) ∧ Hid (∃ n, wr = w.drewN n)) (fun _ i _ => 4 - (intOf i).toNat)
  case atStart => exact ⟨0, by omega, rfl, rfl, ⟨0, rfl⟩⟩
  case round =>
    obtain ⟨k, hk, rfl, rfl, HW⟩ := hrel
    have hel := Sk.et_le s.c N k
    by_cases hlt : k < 4
    · obtain ⟨n0, hw0⟩ := HW.out
      have C := Lib.hid (fun W => skrefrow_any N hN (k : Int) W)
      have hr := Key.row_lt N (k : Int)
      have HA := Sk.at_lt (h := N) hlt
      have HD : Hid (Sk.et s.c N (k + 1) = min (Sk.et s.c N k) (Sk.g s.c (Sk.at_ N k))) := rfl
      have c0 : wr.cell? ⟨q, k * 64 + Key.row N (k : Int), none⟩ = some (.int .i64 (Sk.g s.c (Sk.at_ N k) : Int)) := by rw [hw0]; exact (H.out.drewN n0).cell (Sk.at_ N k) HA
      have hx := H.out.le (Sk.at_ N k)
      have HWN : Hid (∀ n, ∃ m, wr.drewN n = w.drewN m) := fun n => ⟨n0 + n, by rw [hw0, World.drewN_drewN]⟩
      generalize Sk.g s.c (Sk.at_ N k) = x at *
      generalize Sk.et s.c N k = y at *
      generalize Key.row N (k : Int) = r at *
      clear hw0 HA
      go_wp2_with fail
      go_quiet (first | (go_at_call 15; refine Calls.quiet_of_same (C.out _)))
      go_wp2_with fail
      go_roundw
      case rel => exact ⟨k + 1, by omega, by go_num, (by rw [HD.out]; congr 1; split <;> omega), HWN.out _⟩
      case measure => simp [intOf]; omega
    · obtain rfl : k = 4 := by omega
      have HE := Lib.hid (Sk.et_four s N)
      generalize Sk.et s.c N 4 = y at *
      go_wp2_with fail
      go_ret
      exact ⟨by rw [← HE.out]; rfl, HW.out⟩
end Go.Proofs.Ytbhmlfgofemjlaa
