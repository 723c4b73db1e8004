/-
  The program's Touch, Estimate and Touches.
-/
import Derived.Test.YtbhmlfgofemjlaaSkNew
import Derived.BigQuiet
import Derived.BigRegion
set_option maxRecDepth 100000
namespace Go.Proofs.Ytbhmlfgofemjlaa
open Go.RowKit
theorem at_add (q n : Nat) : (⟨q, 0, none⟩ : Addr).add n = ⟨q, n, none⟩ := by unfold Addr.add; split <;> simp_all
theorem at_add2 (q m n : Nat) : (⟨q, m, none⟩ : Addr).add n = ⟨q, m + n, none⟩ := by unfold Addr.add; split <;> simp_all
theorem skrow_any (N : Nat) (hN : N < 18446744073709551616) (n : Int) (w : World) :
    Calls Try.prog 16 #[.int .u64 (N : Int), .int .i64 n] w fun e w' => e = .returned (.int .i64 (Key.row N n : Int)) ∧ w' = w := (row_any N hN n w).mono fun _ _ h => ⟨h.1, h.2.symm⟩
theorem skrefrow_any (N : Nat) (hN : N < 18446744073709551616) (n : Int) (w : World) :
    Calls Try.prog 15 #[.int .u64 (N : Int), .int .i64 n] w fun e w' => e = .returned (.int .i64 (Key.row N n : Int)) ∧ w' = w := (refrow_any N hN n w).mono fun _ _ h => ⟨h.1, h.2.symm⟩
set_option maxHeartbeats 400000 in
theorem skcounter_any (q N k : Nat) (w : World) (hN : N < 18446744073709551616) (hk : k < 4) :
    Calls Try.prog 13 #[.pointer (some ⟨q, 0, none⟩), .int .u64 (N : Int), .int .i64 (k : Int)] w fun e w' => e = .returned (.pointer (some ⟨q, Sk.at_ N k, none⟩)) ∧ ∃ n, w' = w.drewN n := by
  have C := Lib.hid (fun W => skrow_any N hN (k : Int) W)
  have hr := Key.row_lt N (k : Int)
  have HA : Hid (Sk.at_ N k = k * 64 + Key.row N (k : Int)) := rfl
  generalize Sk.at_ N k = a at *
  generalize Key.row N (k : Int) = r at *
  go_enter Try.func13, Try.ntmps13
  go_wp2_with fail
  go_quiet (first | (go_at_call 16; refine Calls.quiet_of_same (C.out _)))
  go_wp2
  go_ret
  exact ⟨by rw [HA.out]; rfl, nq, rfl⟩
set_option maxHeartbeats 1000000 in
theorem skhalve_any (q : Nat) (s : Sk.St) (w : World) (hn : s.n < 1000000) (H : Hid (SkIn 41 .u8 w q s)) :
    Calls Try.prog 14 #[.pointer (some ⟨q, 0, none⟩)] w fun e w' => e = .returned (.tuple #[]) ∧ SkIn 41 .u8 w' q ⟨Sk.halve s.c, s.n / 2⟩ ∧ On q w w' := by
  go_enter Try.func14, Try.ntmps14
  go_wp2_with fail
  go_loopw [4] (fun iv wr => ∃ k : Nat, k ≤ 4 ∧ iv = .int .i64 (k : Int) ∧ Hid (SkIn 41 .u8 wr q ⟨Sk.ht s.c (k * 64), s.n⟩) ∧ Hid (On q w wr)) (fun i _ => 4 - (intOf i).toNat)
  case atStart => exact ⟨0, by omega, rfl, H, On.refl _ _⟩
  case round =>
    obtain ⟨k, hk, rfl, HS, HO⟩ := hrel
    by_cases hlt : k < 4
    · have hkd : decide ((k : Int) < 4) = true := decide_eq_true (by omega)
      go_wp2_with fail
      clear hkd
      go_loopw [7] (fun jv wx => ∃ j : Nat, j ≤ 64 ∧ jv = .int .i64 (j : Int) ∧ Hid (SkIn 41 .u8 wx q ⟨Sk.ht s.c (k * 64 + j), s.n⟩) ∧ Hid (On q w wx)) (fun i _ => 64 - (intOf i).toNat)
      case atStart => exact ⟨0, by omega, rfl, HS, HO⟩
      case round =>
        obtain ⟨j, hj, rfl, HS2, HO2⟩ := hrel
        by_cases hlt2 : j < 64
        · have c0 := HS2.out.cell (k * 64 + j) (by omega)
          have f0 := HS2.out.frozen (k * 64 + j)
          have hx := HS2.out.le (k * 64 + j)
          have HX : Hid (Sk.g (Sk.ht s.c (k * 64 + j)) (k * 64 + j) / 2 = Sk.g (Sk.ht s.c (k * 64 + j)) (k * 64 + j) / 2) := rfl
          have HN := Lib.hid (fun x hx => HS2.out.set (j := k * 64 + j) (x := x) (by omega) hx)
          have HON := Lib.hid (fun v => HO2.out.set (k * 64 + j) v)
          have HD : Hid (Sk.ht s.c (k * 64 + (j + 1)) = (Sk.ht s.c (k * 64 + j)).set (k * 64 + j) (Sk.g (Sk.ht s.c (k * 64 + j)) (k * 64 + j) / 2)) := rfl
          obtain ⟨x, hgx⟩ : ∃ x, Sk.g (Sk.ht s.c (k * 64 + j)) (k * 64 + j) = x := ⟨_, rfl⟩
          obtain ⟨y, hy⟩ : ∃ y, x / 2 = y := ⟨_, rfl⟩
          simp only [hgx] at c0 hx
          rw [hgx, hy] at HD
          have hxy : (x : Int) / 2 = (y : Int) := by omega
          have hyl : y ≤ 15 := by omega
          have hwy : IntKind.u8.wrap (y : Int) = (y : Int) := by rw [IntKind.wrap_u8]; omega
          have HY := Lib.hid hyl
          clear hgx hy HX
          go_wp2_with fail
          go_region
          go_wp2_with fail
          go_roundw
          case rel => exact ⟨j + 1, by omega, by go_num, (by show SkIn _ _ _ _ _; rw [HD.out]; exact (HN.out y HY.out).drew), (HON.out _).drew⟩
          case measure => simp [intOf]; omega
        · obtain rfl : j = 64 := by omega
          go_wp2_with fail
          exact ⟨⟨k + 1, by omega, by go_num, (by rw [show (k + 1) * 64 = k * 64 + 64 by omega]; exact HS2), HO2⟩, by simp [intOf]; omega⟩
    · obtain rfl : k = 4 := by omega
      have c1 := HS.out.num
      have f1 := HS.out.frozen 256
      have HE : Hid (Sk.ht s.c (4 * 64) = Sk.halve s.c) := by
        have := Sk.ht_all s.c
        rw [H.out.len] at this
        exact this
      rw [HE.out] at HS
      have HN := Lib.hid (fun m => HS.out.setN m)
      have HON := Lib.hid (fun v => HO.out.set 256 v)
      obtain ⟨m, hm⟩ : ∃ m, s.n / 2 = m := ⟨_, rfl⟩
      have hsm : (s.n : Int) / 2 = (m : Int) := by omega
      have HM := Lib.hid hm
      clear hm
      go_wp2_with fail
      go_end0
      rw [HM.out]
      exact ⟨rfl, HN.out m, HON.out _⟩
set_option maxHeartbeats 1000000 in
theorem sktouch_any (q N : Nat) (s : Sk.St) (w : World) (hN : N < 18446744073709551616) (hn : s.n < 1000000) (H : Hid (SkIn 41 .u8 w q s)) :
    Calls Try.prog 7 #[.pointer (some ⟨q, 0, none⟩), .int .u64 (N : Int)] w fun e w' => e = .returned (.tuple #[]) ∧ SkIn 41 .u8 w' q (Sk.touch s N) ∧ On q w w' := by
  go_enter Try.func7, Try.ntmps7
  go_wp2_with fail
  go_loopw [8] (fun iv wr => ∃ k : Nat, k ≤ 4 ∧ iv = .int .i64 (k : Int) ∧ Hid (SkIn 41 .u8 wr q ⟨Sk.bt s.c N k, s.n⟩) ∧ Hid (On q w wr)) (fun i _ => 4 - (intOf i).toNat)
  case atStart => exact ⟨0, by omega, rfl, H, On.refl _ _⟩
  case round =>
    obtain ⟨k, hk, rfl, HS, HO⟩ := hrel
    by_cases hlt : k < 4
    · have C := Lib.hid (skcounter_any q N k wr hN hlt)
      have HA := Lib.hid (Sk.at_lt (h := N) hlt)
      have HD : Hid (Sk.bt s.c N (k + 1) = (Sk.bt s.c N k).set (Sk.at_ N k) (min (Sk.g (Sk.bt s.c N k) (Sk.at_ N k) + 1) 15)) := rfl
      have HCE := Lib.hid (HS.out.cell (Sk.at_ N k) HA.out)
      have HFR := Lib.hid (HS.out.frozen (Sk.at_ N k))
      have hx := HS.out.le (Sk.at_ N k)
      have HN := Lib.hid (fun n x hx => (HS.out.drewN n).set (j := Sk.at_ N k) (x := x) HA.out hx)
      have HON := Lib.hid (fun n v => (HO.out.drewN n).set (Sk.at_ N k) v)
      obtain ⟨x, hgx⟩ : ∃ x, Sk.g (Sk.bt s.c N k) (Sk.at_ N k) = x := ⟨_, rfl⟩
      simp only [hgx] at HCE hx
      rw [hgx] at HD
      clear hgx
      generalize Sk.at_ N k = a at *
      go_wp2_with fail
      refine C.out.mono ?_
      rintro e w2 ⟨rfl, n2, rfl⟩
      have c0 : (wr.drewN n2).cell? ⟨q, a, none⟩ = some (.int .u8 (x : Int)) := HCE.out
      have f0 : (wr.drewN n2).frozen? ⟨q, a, none⟩ = false := HFR.out
      have HN2 := Lib.hid (fun x hx => HN.out n2 x hx)
      have HON2 := Lib.hid (fun v => HON.out n2 v)
      have hwx : IntKind.u8.wrap ((x : Int) + 1) = (x : Int) + 1 := by rw [IntKind.wrap_u8]; omega
      obtain ⟨y, hy⟩ : ∃ y, min (x + 1) 15 = y := ⟨_, rfl⟩
      have hmin : (if (15 : Int) < (x : Int) + 1 then (15 : Int) else (x : Int) + 1) = (y : Int) := by split <;> omega
      have HY : Hid (y ≤ 15) := by show _ ≤ _; omega
      rw [hy] at HD
      clear hy
      clear C HCE HFR HN HON
      generalize wr.drewN n2 = w3 at *
      go_wp2_with fail
      exact ⟨⟨k + 1, by omega, by go_num, (by rw [HD.out]; exact HN2.out y HY.out), HON2.out _⟩, by simp [intOf]; omega⟩
    · obtain rfl : k = 4 := by omega
      have c1 := HS.out.num
      have f1 := HS.out.frozen 256
      rw [Sk.bt_four] at HS
      have HN := Lib.hid (HS.out.setN (s.n + 1))
      have HON := Lib.hid (HO.out.set 256 (.int .i64 (((s.n + 1 : Nat)) : Int)))
      have hsn : (((s.n + 1 : Nat)) : Int) = (s.n : Int) + 1 := by omega
      rw [hsn] at HN HON
      have c2 := HN.out.num
      simp only [hsn] at c2
      have HT : Hid (Sk.touch s N = if s.n + 1 = 640 then ⟨Sk.halve (Sk.bump s.c N), 320⟩ else ⟨Sk.bump s.c N, s.n + 1⟩) := rfl
      clear hsn
      by_cases h640 : s.n + 1 = 640
      · rw [if_pos h640] at HT
        have C := Lib.hid (skhalve_any q _ _ (show s.n + 1 < 1000000 by omega) HN)
        have hs : s.n = 639 := by omega
        have hs2 : (s.n : Int) = 639 := by omega
        simp only [hs2] at c1 c2 HN HON C
        clear hs2
        go_wp2_with fail
        refine C.out.mono ?_
        rintro e w3 ⟨rfl, h1, h2⟩
        have H1 := Lib.hid h1
        have H2 := Lib.hid (HON.out.trans h2)
        clear h1 h2
        go_wp2_with fail
        go_end0
        have e : SkIn 41 .u8 w3 q ⟨Sk.halve (Sk.bump s.c N), (s.n + 1) / 2⟩ := H1.out
        rw [show (s.n + 1) / 2 = 320 by omega] at e
        rw [HT.out]
        exact ⟨rfl, e, H2.out⟩
      · rw [if_neg h640] at HT
        go_wp2_with fail
        go_end0
        rw [HT.out]
        exact ⟨rfl, HN.out, HON.out⟩
set_option maxHeartbeats 1000000 in
theorem skest_any (q N : Nat) (s : Sk.St) (w : World) (hN : N < 18446744073709551616) (H : Hid (SkIn 41 .u8 w q s)) :
    Calls Try.prog 10 #[.pointer (some ⟨q, 0, none⟩), .int .u64 (N : Int)] w fun e w' => e = .returned (.int .i64 (Sk.est s N : Int)) ∧ ∃ n, w' = w.drewN n := by
  go_enter Try.func10, Try.ntmps10
  go_wp2_with fail
  go_loopw [5, 9] (fun ev iv wr => ∃ k : Nat, k ≤ 4 ∧ iv = .int .i64 (k : Int) ∧ ev = .int .u8 (Sk.et s.c N k : Int) ∧ Hid (∃ n, wr = w.drewN n)) (fun _ i _ => 4 - (intOf i).toNat)
  case atStart => exact ⟨0, by omega, rfl, rfl, ⟨0, rfl⟩⟩
  case round =>
    obtain ⟨k, hk, rfl, rfl, HW⟩ := hrel
    have hel := Sk.et_le s.c N k
    by_cases hlt : k < 4
    · obtain ⟨n0, hw0⟩ := HW.out
      have C := Lib.hid (skcounter_any q N k wr hN hlt)
      have HA := Sk.at_lt (h := N) hlt
      have HD : Hid (Sk.et s.c N (k + 1) = min (Sk.et s.c N k) (Sk.g s.c (Sk.at_ N k))) := rfl
      have HCE : Hid (wr.cell? ⟨q, Sk.at_ N k, none⟩ = some (.int .u8 (Sk.g s.c (Sk.at_ N k) : Int))) := by rw [hw0]; exact (H.out.drewN n0).cell (Sk.at_ N k) HA
      have hx := H.out.le (Sk.at_ N k)
      have HWN : Hid (∀ n, ∃ m, wr.drewN n = w.drewN m) := fun n => ⟨n0 + n, by rw [hw0, World.drewN_drewN]⟩
      generalize Sk.g s.c (Sk.at_ N k) = x at *
      generalize Sk.et s.c N k = y at *
      generalize Sk.at_ N k = a at *
      clear hw0
      go_wp2_with fail
      refine C.out.mono ?_
      rintro e w2 ⟨rfl, n2, rfl⟩
      have c0 : (wr.drewN n2).cell? ⟨q, a, none⟩ = some (.int .u8 (x : Int)) := HCE.out
      have HW2 := Lib.hid (HWN.out n2)
      clear C HCE HWN
      generalize wr.drewN n2 = w3 at *
      go_wp2_with fail
      exact ⟨⟨k + 1, by omega, by go_num, (by rw [HD.out]; congr 1; split <;> omega), HW2⟩, by simp [intOf]; omega⟩
    · obtain rfl : k = 4 := by omega
      have HE := Lib.hid (Sk.et_four s N)
      generalize Sk.et s.c N 4 = y at *
      go_wp2_with fail
      go_ret
      exact ⟨by rw [← HE.out]; rfl, HW.out⟩
set_option maxHeartbeats 400000 in
theorem sktouches_any (q : Nat) (s : Sk.St) (w : World) (H : Hid (SkIn 41 .u8 w q s)) :
    Calls Try.prog 9 #[.pointer (some ⟨q, 0, none⟩)] w fun e w' => e = .returned (.int .i64 (s.n : Int)) ∧ w' = w := by
  have c0 := H.out.num
  go_enter Try.func9, Try.ntmps9
  go_wp2
  go_ret
  exact ⟨rfl, rfl⟩
set_option maxHeartbeats 400000 in
theorem niltouch_any (N : Nat) (w : World) :
    Calls Try.prog 7 #[.pointer none, .int .u64 (N : Int)] w fun e w' => e = .returned (.tuple #[]) ∧ w' = w := by
  go_enter Try.func7, Try.ntmps7
  go_wp2_with fail
  (try simp only [Exit.inBlock, Exit.then]); refine bodyPost_ret (results_none rfl _ _ _) rfl ?_
  exact ⟨rfl, rfl⟩
set_option maxHeartbeats 400000 in
theorem nilest_any (N : Nat) (w : World) :
    Calls Try.prog 10 #[.pointer none, .int .u64 (N : Int)] w fun e w' => e = .returned (.int .i64 0) ∧ w' = w := by
  go_enter Try.func10, Try.ntmps10
  go_wp2
  go_ret
  exact ⟨rfl, rfl⟩
set_option maxHeartbeats 400000 in
theorem niltouches_any (w : World) :
    Calls Try.prog 9 #[.pointer none] w fun e w' => e = .returned (.int .i64 0) ∧ w' = w := by
  go_enter Try.func9, Try.ntmps9
  go_wp2
  go_ret
  exact ⟨rfl, rfl⟩
end Go.Proofs.Ytbhmlfgofemjlaa
