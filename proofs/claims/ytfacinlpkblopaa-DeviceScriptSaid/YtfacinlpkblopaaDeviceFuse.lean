/-
  The law on a fuse, walked.
-/
import Derived.Test.YtfacinlpkblopaaDeviceNew
namespace Go.Proofs.Ytfacinlpkblopaa
open Go.RowKit Go.Maps
theorem low15 (n : Int) : ∃ N : Nat, N ≤ 15 ∧ bits .and .i64 n 15 = (N : Int) := by
  have h1 : (BitVec.ofInt 64 15).toNat = 15 := by decide
  have hle : (BitVec.ofInt 64 n).toNat &&& 15 ≤ 15 := Nat.and_le_right
  refine ⟨(BitVec.ofInt 64 n).toNat &&& 15, hle, ?_⟩
  show IntKind.i64.wrap ((BitVec.ofInt 64 n &&& BitVec.ofInt 64 15).toNat : Int) = _
  rw [BitVec.toNat_and, h1, IntKind.wrap_i64]
  omega
theorem odd_i64 (m : Nat) (h : m < 9223372036854775808) : bits .and .i64 (m : Int) 1 = ((m % 2 : Nat) : Int) := by
  have h1 : (BitVec.ofInt 64 1).toNat = 1 := by decide
  have h2 : (BitVec.ofInt 64 (m : Int)).toNat = m := by
    rw [BitVec.ofInt_natCast, BitVec.toNat_ofNat]; exact Nat.mod_eq_of_lt (by omega)
  have h3 : m &&& 1 = m % 2 := Nat.and_two_pow_sub_one_eq_mod m 1
  show IntKind.i64.wrap ((BitVec.ofInt 64 (m : Int) &&& BitVec.ofInt 64 1).toNat : Int) = _
  rw [BitVec.toNat_and, h1, h2, h3, IntKind.wrap_i64]
  omega
/-- A device with a fuse of the length N behind i calls. -/
structure FuseAt (N i : Nat) (s : Flash) : Prop where
  wr : s.wr ≤ i
  fused : s.fused = true
  dead : s.dead = decide (N < i)
  fuse : i ≤ N → s.fuse = (N : Int) - (i : Int)
theorem fuseAt_start (N : Nat) (l : List Nat) : FuseAt N 0 ((Flash.fresh l).setFuse (N : Int)) :=
  ⟨Nat.le_refl _, by simp [Flash.setFuse], by simp [Flash.setFuse, Flash.fresh], fun _ => by simp [Flash.setFuse]⟩
theorem FuseAt.lasts {N i : Nat} {s : Flash} (h : FuseAt N i s) (hi : i ≤ N) : s.lasts = decide (i < N) := by
  unfold Flash.lasts
  rw [h.fused, h.fuse hi]
  by_cases e : i < N
  · rw [decide_eq_true e]; simp; omega
  · rw [decide_eq_false e]; simp; omega
theorem FuseAt.burnt {N i : Nat} {s : Flash} (h : FuseAt N i s) (hi : i ≤ N) : FuseAt N (i + 1) s.burnt := by
  have hf := h.fuse hi
  unfold Flash.burnt
  rw [if_pos h.fused]
  by_cases e : i < N
  · rw [if_neg (by omega)]
    exact ⟨by have := h.wr; show s.wr ≤ _; omega, h.fused, by show s.dead = _; rw [h.dead, decide_eq_false (by omega), decide_eq_false (by omega)], fun _ => by show s.fuse - 1 = _; omega⟩
  · rw [if_pos (by omega)]
    exact ⟨by have := h.wr; show s.wr ≤ _; omega, h.fused, by show true = _; rw [decide_eq_true (by omega)], fun _ => by omega⟩
theorem FuseAt.barrier {N i : Nat} {s : Flash} (h : FuseAt N i s) : s.barrierErr = (if i < N then 0 else 1) ∧ FuseAt N (i + 1) s.barrier := by
  unfold Flash.barrierErr Flash.barrier
  by_cases hi : i ≤ N
  · have hd : ¬ s.dead = true := by rw [h.dead]; simp; omega
    have hb := h.burnt hi
    rw [if_neg hd, if_neg hd, h.lasts hi]
    by_cases e : i < N
    · rw [decide_eq_true e, if_pos rfl, if_pos e, if_pos rfl]
      exact ⟨rfl, hb.wr, hb.fused, hb.dead, hb.fuse⟩
    · rw [decide_eq_false e, if_neg (by simp), if_neg e, if_neg (by simp)]
      exact ⟨rfl, hb⟩
  · have hd : s.dead = true := by rw [h.dead]; simp; omega
    rw [if_pos hd, if_pos hd, if_neg (by omega)]
    exact ⟨rfl, by have := h.wr; omega, h.fused, by rw [hd]; simp; omega, fun _ => by omega⟩
theorem FuseAt.write {N i : Nat} {s : Flash} (h : FuseAt N i s) (j : Int) (hj0 : 0 ≤ j) (hj : j < 2) (b : List Nat) (hb64 : b.length ≤ 64) : s.writeErr 2 j b = (if i < N then 0 else 1) ∧ FuseAt N (i + 1) (s.write 2 j b) := by
  unfold Flash.writeErr Flash.write
  have hne : ¬ (j < 0 ∨ ((2 : Nat) : Int) ≤ j) := by omega
  have hnl : ¬ 64 < b.length := by omega
  by_cases hi : i ≤ N
  · have hd : ¬ s.dead = true := by rw [h.dead]; simp; omega
    have hb := h.burnt hi
    have hw := (burnt_cur s).2.2
    have hn4 : ¬ (s.dead = true ∨ j < 0 ∨ ((2 : Nat) : Int) ≤ j ∨ 64 < b.length) := fun h => h.elim hd (fun h => by omega)
    by_cases e : i < N
    · have hla : s.lasts = true := by rw [h.lasts hi, decide_eq_true e]
      rw [if_neg hd, if_neg hne, if_neg hnl, if_pos hla, if_neg hn4, if_pos hla, if_pos e]
      refine ⟨rfl, ?_, hb.fused, hb.dead, hb.fuse⟩
      show s.burnt.wr + 1 ≤ i + 1
      have := h.wr
      omega
    · have hla : ¬ s.lasts = true := by rw [h.lasts hi, decide_eq_false e]; simp
      rw [if_neg hd, if_neg hne, if_neg hnl, if_neg hla, if_neg hn4, if_neg hla, if_neg e]
      exact ⟨rfl, hb⟩
  · have hd : s.dead = true := by rw [h.dead]; simp; omega
    have hn4 : s.dead = true ∨ j < 0 ∨ ((2 : Nat) : Int) ≤ j ∨ 64 < b.length := .inl hd
    have e : ¬ i < N := by omega
    rw [if_pos hd, if_pos hn4, if_neg e]
    exact ⟨rfl, by have := h.wr; omega, h.fused, by rw [hd]; simp; omega, fun _ => by omega⟩
set_option maxHeartbeats 1000000 in
theorem devicefuse_any (n : Int) (A : Option Addr) (k ca : Nat) (calls : List Bool) (w : World) (hl : Hid (calls.length = k)) (hb : Hid (Bls w w.heap.size A calls)) :
    Calls Try.prog 5 #[.int .i64 n, .slice A k ca] w (LawDid w) := by
  obtain ⟨N, hN, hbits⟩ := low15 n
  go_enter Try.func5, Try.ntmps5
  go_wp2_with fail
  clear hbits
  refine (new_yes 2 _ rfl _ (by omega) (by omega)).mono ?_
  rintro e w1 ⟨g, c, m, rfl, hd, hg, hc, hm, hb1⟩
  have HD := Lib.hid (And.intro hd hb1); clear hd hb1
  have HS : Hid (∀ k, devS g c m k → w.heap.size ≤ k) := fun k h => by rcases h with h | h | h <;> omega
  go_wp2_with fail
  refine (fuse_any (N : Int) (by omega) (Lib.hid HD.out.1)).mono ?_
  rintro e w2 ⟨rfl, hd2, hk2⟩
  have HD2 : Hid (Dev w2 g c m 2 ((Flash.fresh (List.replicate (2 * 64) 0)).setFuse (N : Int)) ∧ Below w.heap.size w w2) := ⟨hd2, HD.out.2.trans (hk2.below HD.out.2.size (fun k h => HS.out k (.inl h)))⟩
  clear HD hd2 hk2
  go_wp2_with fail
  go_loopw [6] (fun iv wr => ∃ (i : Nat) (s : Flash), i ≤ k ∧ i ≤ 30 ∧ iv = .int .i64 (i : Int) ∧ Hid (Dev wr g c m 2 s) ∧ Hid (FuseAt N i s) ∧ Hid (Below w.heap.size w wr)) (fun iv _ => 30 - (RowKit.intOf iv).toNat)
  case atStart => exact ⟨0, _, Nat.zero_le _, Nat.zero_le _, rfl, HD2.out.1, fuseAt_start N _, HD2.out.2⟩
  case round =>
    obtain ⟨i, s, hik, hi30, rfl, hd, hfu, hbel⟩ := hrel
    by_cases hlt : i < k
    · by_cases hlt2 : i < 30
      · obtain ⟨ad, rfl, hadb, hcell⟩ := hb.out.below hbel.out (Nat.le_refl _) i (by rw [hl.out]; exact hlt)
        have hodd := odd_i64 i (by omega)
        rw [show ((i % 2 : Nat) : Int) = (i : Int) % 2 by omega] at hodd
        have hi2 : (i : Int) % 2 < 2 ∧ 0 ≤ (i : Int) % 2 := by omega
        have hbar := hfu.out.barrier
        have hwri := hfu.out.write ((i : Int) % 2) hi2.2 hi2.1 [i] (by simp)
        have hwr : s.wr < 4611686018427387904 := by have := hfu.out.wr; omega
        have HG : Hid (g < wr.heap.size ∧ c < wr.heap.size ∧ m < wr.heap.size) := hd.out.lt
        have CB := barrier_any hd
        have HW : Hid (Dev (wr.alloc (.cells #[.int .u8 (i : Int)] 5)) g c m 2 s) := hd.out.kept (S := fun _ => False) (Kept.alloc _ _) (fun h => h) (fun h => h) (fun h => h)
        have HBs : Hid (Bs (wr.alloc (.cells #[.int .u8 (i : Int)] 5)) (wr.heap.size + 1) (some ⟨wr.heap.size, 0, none⟩) [i]) := bs_new wr _ [i] (fun x hx => by rw [List.mem_singleton.1 hx]; omega) _ _ rfl
        have CW := write_any ((i : Int) % 2) _ _ 1 1 [i] (by omega) rfl HBs HW hwr
        have hdd : Hid ((if i < N then (0 : Int) else 1) = 0 ∧ decide (N < i + 1) = false ∧ decide (N ≤ i) = false ∨ (if i < N then (0 : Int) else 1) = 1 ∧ decide (N < i + 1) = true ∧ decide (N ≤ i) = true) := by
          by_cases e : i < N
          · exact .inl ⟨if_pos e, by simp; omega, by simp; omega⟩
          · exact .inr ⟨if_neg e, by simp; omega, by simp; omega⟩
        rw [hbar.1] at CB
        rw [hwri.1] at CW
        have HN : Hid (FuseAt N (i + 1) s.barrier ∧ FuseAt N (i + 1) (s.write 2 ((i : Int) % 2) [i])) := ⟨hbar.2, hwri.2⟩
        clear hbar hwri
        rcases hdd.out with ⟨e1, e2, e3⟩ | ⟨e1, e2, e3⟩
        all_goals
          rw [e1] at CB CW
          have E2 := Lib.hid e2; clear e2
          cases hcc : calls.getD i false with
          | true =>
            rw [hcc] at hcell
            clear CW HW HBs hcc hi2 e1
            go_wp2_with fail
            refine CB.mono ?_
            rintro e w3 ⟨rfl, hd3, hk3⟩
            have HD3 := Lib.hid hd3; clear hd3 CB
            have HB3 : Hid (Below w.heap.size w w3) := hbel.out.trans (hk3.below hbel.out.size (fun k h => HS.out k (h.elim .inl (fun h => .inr (.inr h)))))
            clear hk3
            go_wp2_with (go_at_call 25; refine (dead_any HD3).mono ?_; rw [HN.out.1.dead, E2.out]; rintro e w' ⟨rfl, rfl⟩)
            go_roundw
            case rel => exact ⟨i + 1, _, by omega, by omega, by go_num, HD3, HN.out.1, HB3⟩
            case measure => simp [RowKit.intOf]; omega
          | false =>
            rw [hcc] at hcell
            clear CB hcc e1
            go_wp2_with fail
            refine CW.mono ?_
            rintro e w3 ⟨rfl, hd3, hk3⟩
            have HD3 := Lib.hid hd3; clear hd3 CW
            have HB3 : Hid (Below w.heap.size w w3) := by
              have h := hbel.out.alloc hbel.out.size (.cells #[.int .u8 (i : Int)] 5)
              exact h.trans (hk3.below h.size HS.out)
            clear hk3 HW HBs hi2
            go_wp2_with (go_at_call 25; refine (dead_any HD3).mono ?_; rw [HN.out.2.dead, E2.out]; rintro e w' ⟨rfl, rfl⟩)
            go_roundw
            case rel => exact ⟨i + 1, _, by omega, by omega, by go_num, HD3, HN.out.2, HB3⟩
            case measure => simp [RowKit.intOf]; omega
      · have hd30 : decide ((i : Int) < 30) = false := by simp; omega
        go_wp2_with (go_at_call 23; refine (awake_any _).mono ?_; rintro e w4 ⟨rfl, hb4⟩)
        go_ret
        exact ⟨rfl, hbel.out.trans (hb4.mono hbel.out.size)⟩
    · have hdk : decide ((i : Int) < (k : Int)) = false := by simp; omega
      go_wp2_with (go_at_call 23; refine (awake_any _).mono ?_; rintro e w4 ⟨rfl, hb4⟩)
      go_ret
      exact ⟨rfl, hbel.out.trans (hb4.mono hbel.out.size)⟩
end Go.Proofs.Ytfacinlpkblopaa
