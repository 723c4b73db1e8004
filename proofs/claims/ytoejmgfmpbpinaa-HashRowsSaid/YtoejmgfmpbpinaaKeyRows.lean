/-
  The walk of the statement on the rows of a hash.
-/
import Derived.Test.YtoejmgfmpbpinaaKeyLaws
namespace Go.Proofs.Ytoejmgfmpbpinaa
open Go.RowKit
theorem rem29 (x : Int) : ∃ (t : Int) (m : Nat), x.tmod 29 = t ∧ -29 < t ∧ t < 29 ∧ 1 + t % 29 = (m : Int) ∧ 1 ≤ m ∧ m ≤ 29 := by
  have h : (x.tmod 29).natAbs = x.natAbs % 29 := Int.natAbs_tmod x 29
  exact ⟨_, (1 + x.tmod 29 % 29).toNat, rfl, by omega, by omega, by omega, by omega, by omega⟩
theorem ret_bool {a b : Bool} (h : a = b) : Ending.returned (.bool a) = .returned (.bool b) := by rw [h]
theorem rows_spell (N k : Nat) (hk : k < 4) : wrap64 (((N % 64 ^ k : Nat) : Int) + wrap64 (((Key.row N (k : Int) : Nat) : Int) * 2 ^ (6 * k))) = ((N % 64 ^ (k + 1) : Nat) : Int) := by
  rw [Key.row_in N k (by omega), show ((2 : Int) ^ (6 * k)) = ((64 ^ k : Nat) : Int) from by rw [← six, Int.natCast_pow]; rfl, Nat.pow_succ, Nat.mod_mul]
  have h1 : N / 64 ^ k % 64 < 64 := Nat.mod_lt _ (by decide)
  have h2 : 64 ^ k ≤ 64 ^ 3 := Nat.pow_le_pow_right (by decide) (by omega)
  have h3 : N % 64 ^ k < 64 ^ k := Nat.mod_lt _ (Nat.pow_pos (by decide))
  have h4 : (N / 64 ^ k % 64) * 64 ^ k ≤ 64 * 64 ^ k := Nat.mul_le_mul_right _ (Nat.le_of_lt h1)
  generalize N / 64 ^ k % 64 = r at h1 h4
  generalize N % 64 ^ k = lo at h3
  generalize 64 ^ k = p at h2 h3 h4
  rw [← Int.natCast_mul, Nat.mul_comm p r]
  generalize r * p = q at h4
  rw [wrap64_fits (q : Int) (by omega), wrap64_fits _ (by omega)]
  omega
set_option maxRecDepth 100000 in
set_option maxHeartbeats 400000 in
theorem hashrows_any (N : Nat) (hN : N < 18446744073709551616) (n : Int) (w : World) :
    Calls Try.prog 6 #[.int .u64 (N : Int), .int .i64 n] w fun e w' => e = .returned (.bool true) ∧ Below w.heap.size w w' := by
  obtain ⟨t, m, et, ht1, ht2, em, hm1, hm2⟩ := rem29 n
  go_enter Try.func6, Try.ntmps6
  go_wp2
  go_loop [5, 6] (fun lv iv => ∃ k : Nat, k ≤ 4 ∧ iv = .int .i64 k ∧ lv = .int .i64 ((N % 64 ^ k : Nat) : Int)) (fun _ i => 4 - (intOf i).toNat)
  case atStart => exact ⟨0, Nat.zero_le _, rfl, by rw [Nat.pow_zero, Nat.mod_one]; rfl⟩
  case round =>
    obtain ⟨k, hk, rfl, rfl⟩ := hrel
    by_cases hlt : k < 4
    · have hk0 := rows_spell N k hlt
      generalize N % 64 ^ k = lo at hk0
      have HK := Lib.hid hk0; clear hk0
      go_wp2_with (go_at_call 11; refine (row_any N hN _ _).mono ?_; rintro e w' ⟨rfl, rfl⟩)
      go_round
      case rel =>
        refine ⟨k + 1, by omega, by go_num, ?_⟩
        rw [HK.out]
      case measure => simp [intOf]; omega
    · obtain rfl : k = 4 := by omega
      have h6 : N % 16777216 < 16777216 := Nat.mod_lt _ (by decide)
      have e6 : (N : Int).tmod 16777216 = ((N % 64 ^ 4 : Nat) : Int) := by rw [Int.tmod_eq_emod_of_nonneg (Int.natCast_nonneg _)]; omega
      have h7 : N % 64 ^ 4 < 16777216 := Nat.mod_lt _ (by decide)
      generalize N % 64 ^ 4 = lo at e6 h7
      have h8 : (lo : Int) < 16777216 := by omega
      clear h6 h7
      go_wp2_with fail
      refine (awake_any _).mono ?_
      rintro e w1 ⟨rfl, hb1⟩
      have HB := Lib.hid hb1; clear hb1
      have h9 := Key.home_lt N ((m : Int) + 1) hN
      have h10 := Key.home_half N m hm1 hm2
      go_wp2_with fail
      refine (home_any N hN _ _).mono ?_
      rintro e w2 ⟨rfl, rfl⟩
      generalize Key.home N ((m : Int) + 1) = a at h9 h10
      go_wp2_with fail
      refine (home_any N hN _ _).mono ?_
      rintro e w2 ⟨rfl, rfl⟩
      generalize Key.home N (m : Int) = b at h10
      have h11 : Hid (((a : Int) / 2 == (b : Int)) = true) := by
        show (_ == _) = true
        rw [beq_iff_eq]; omega
      clear h10
      go_wp2
      go_ret
      exact ⟨ret_bool h11.out, HB.out⟩
end Go.Proofs.Ytoejmgfmpbpinaa
