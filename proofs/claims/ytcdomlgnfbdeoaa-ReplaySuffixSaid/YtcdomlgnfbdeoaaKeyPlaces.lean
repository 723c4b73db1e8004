/-
  The walks of keyhash's Home and Row, and of their definitions: what each call returns, for every hash and every number; none of them changes memory.
-/
import Derived.Test.YtcdomlgnfbdeoaaKeyWalk
namespace Go.Proofs.Ytcdomlgnfbdeoaa
open Go.RowKit
theorem wrap64_fits (n : Int) (h : -9223372036854775808 ≤ n ∧ n ≤ 9223372036854775807) : wrap64 n = n := by unfold wrap64; omega
theorem div_cast (N k : Nat) : (N : Int) / 2 ^ k = ((N / 2 ^ k : Nat) : Int) := by rw [Int.natCast_ediv, Int.natCast_pow]; rfl
theorem home_spell (N m : Nat) (hN : N < 18446744073709551616) (h : 1 ≤ m) (h2 : m ≤ 30) : wrap64 ((N : Int) / 2 ^ (64 - m)) = ((N / 2 ^ (64 - m) : Nat) : Int) := by
  have h3 := Key.home_lt N (m : Int) hN
  rw [Key.home_in N m h h2] at h3
  rw [div_cast]
  generalize N / 2 ^ (64 - m) = q at h3
  exact wrap64_fits _ (by omega)
theorem six (m : Nat) : (2 : Nat) ^ (6 * m) = 64 ^ m := by rw [Nat.pow_mul]
theorem row_and (N m : Nat) (hN : N < 18446744073709551616) : wrap64 (bits .and .u64 ((N : Int) / 2 ^ (6 * m)) 63) = ((N / 64 ^ m % 64 : Nat) : Int) := by
  have h1 := u64_and_nat (N / 2 ^ (6 * m)) 63 (Nat.lt_of_le_of_lt (Nat.div_le_self _ _) hN) (by decide)
  rw [Nat.and_two_pow_sub_one_eq_mod _ 6] at h1
  rw [div_cast, show (63 : Int) = ((63 : Nat) : Int) from rfl, h1, six]
  exact wrap64_fits _ (by omega)
theorem row_rem (N m : Nat) : wrap64 (((N : Int) / 2 ^ (6 * m)).tmod 64) = ((N / 64 ^ m % 64 : Nat) : Int) := by
  rw [div_cast, six, Int.tmod_eq_emod_of_nonneg (Int.natCast_nonneg _)]
  exact (wrap64_fits _ (by omega)).trans (by omega)
set_option maxRecDepth 100000 in
set_option maxHeartbeats 400000 in
theorem home_any (N : Nat) (hN : N < 18446744073709551616) (n : Int) (w : World) :
    Calls Try.prog 43 #[.int .u64 (N : Int), .int .i64 n] w fun e w' => e = .returned (.int .i64 (Key.home N n : Int)) ∧ w = w' := by
  rcases (show n < 1 ∨ 30 < n ∨ (1 ≤ n ∧ n ≤ 30) from by omega) with h | h | ⟨h, h2⟩
  · rw [Key.home_out N n (by omega)]
    go_enter Try.func43, Try.ntmps43
    go_wp2
    go_ret
    exact ⟨rfl, rfl⟩
  · rw [Key.home_out N n (by omega)]
    have h1 : ¬ n < 1 := by omega
    go_enter Try.func43, Try.ntmps43
    go_wp2
    go_ret
    exact ⟨rfl, rfl⟩
  · obtain ⟨m, rfl⟩ : ∃ m : Nat, n = (m : Int) := ⟨n.toNat, by omega⟩
    rw [Key.home_in N m (by omega) (by omega)]
    have h3 : 1 ≤ m := by omega
    have h4 : m ≤ 30 := by omega
    go_enter Try.func43, Try.ntmps43
    go_wp2
    go_ret
    exact ⟨ret_int (home_spell N m hN h3 h4), rfl⟩
end Go.Proofs.Ytcdomlgnfbdeoaa
