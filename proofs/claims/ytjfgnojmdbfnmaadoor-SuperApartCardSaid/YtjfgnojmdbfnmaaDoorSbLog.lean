/-
  The walk of the definition's log, and of the two that tell whether a layout is well-formed.
-/
import Derived.Test.YtjfgnojmdbfnmaaDoorSbBits
import Derived.Deep.LoopGhost
namespace Go.Proofs.YtjfgnojmdbfnmaaDoor
open Go.RowKit
namespace Sb
/-- 1 << k, as the walk writes it. -/
def P (k : Nat) : Int := ((2 : Int) ^ min k 64 + 9223372036854775808) % 18446744073709551616 - 9223372036854775808
theorem P_is (k : Nat) (h : k < 12) : wrap64 (2 ^ k) = P k := by simp only [wrap64, P]; rw [Nat.min_eq_left (by omega)]
def lg (n : Int) : Int := if n = 1 then 0 else if pw n then (ex n : Int) else -1
theorem lg_table : ∀ k : Nat, k < 12 → lg (P k) = (k : Int) := by decide
theorem lg_hit {n : Int} {k : Nat} (hk : k < 12) (h : n = P k) : lg n = (k : Int) := by
  rw [h]
  exact lg_table k hk
theorem lg_miss {n : Int} (h : ∀ j, j < 12 → n ≠ P j) : lg n = -1 := by
  unfold lg
  have h0 : n ≠ 1 := fun e => h 0 (by decide) (e.trans (by decide))
  rw [if_neg h0, if_neg]
  intro hp
  unfold pw at hp
  rcases hp with rfl | rfl | rfl | rfl | rfl | rfl | rfl | rfl | rfl | rfl | rfl
  · exact h 1 (by decide) (by decide)
  · exact h 2 (by decide) (by decide)
  · exact h 3 (by decide) (by decide)
  · exact h 4 (by decide) (by decide)
  · exact h 5 (by decide) (by decide)
  · exact h 6 (by decide) (by decide)
  · exact h 7 (by decide) (by decide)
  · exact h 8 (by decide) (by decide)
  · exact h 9 (by decide) (by decide)
  · exact h 10 (by decide) (by decide)
  · exact h 11 (by decide) (by decide)
theorem lg_pw (n : Int) : decide (1 ≤ lg n) = decide (pw n) := by
  unfold lg
  by_cases h1 : n = 1
  · subst h1; decide
  · rw [if_neg h1]
    by_cases hp : pw n
    · rw [if_pos hp, decide_eq_true hp, decide_eq_true (by have := pw_ex hp; omega)]
    · rw [if_neg hp, decide_eq_false hp]; rfl
theorem lg_max (n : Int) (h : n = 0 ∨ pw n) : (if lg n < 0 then 0 else lg n) = (ex n : Int) := by
  rcases h with rfl | h
  · decide
  · unfold pw at h
    rcases h with rfl | rfl | rfl | rfl | rfl | rfl | rfl | rfl | rfl | rfl | rfl <;> decide
end Sb
theorem sblog_any (n : Int) (w : World) : Calls Tryd.prog 46 #[.int .i64 n] w fun e w' => e = .returned (.int .i64 (Sb.lg n)) ∧ w = w' := by
  go_enter Tryd.func46, Tryd.ntmps46
  go_wp2
  go_loop [3] (fun kv => ∃ k : Nat, k ≤ 12 ∧ kv = .int .i64 k ∧ Hid (∀ j, j < k → n ≠ Sb.P j)) (fun kv => 12 - (intOf kv).toNat)
  case atStart => exact ⟨0, Nat.zero_le _, rfl, fun j hj => absurd hj (by omega)⟩
  case round =>
    obtain ⟨k, hk, rfl, hz⟩ := hrel
    by_cases hlt : k < 12
    · have hd : decide ((k : Int) < 12) = true := by simp; omega
      by_cases he : n = wrap64 (2 ^ k)
      · have hq : (n == wrap64 (2 ^ k)) = true := by rw [beq_iff_eq]; exact he
        have hh := Lib.hid (Sb.lg_hit hlt (he.trans (Sb.P_is k hlt)))
        clear he
        go_wp2
        go_ret
        rw [hh.out]
        exact ⟨rfl, rfl⟩
      · have hq : (n == wrap64 (2 ^ k)) = false := by rw [beq_eq_false_iff_ne]; exact he
        have HN : Hid (n ≠ Sb.P k) := by rw [Sb.P_is k hlt] at he; exact he
        clear he
        go_wp2
        go_round
        case rel =>
          refine ⟨k + 1, by omega, by go_num, fun j hj => ?_⟩
          rcases Nat.lt_or_ge j k with h | h
          · exact hz.out j h
          · obtain rfl : j = k := by omega
            exact HN.out
        case measure => simp [intOf]; omega
    · obtain rfl : k = 12 := by omega
      have hh := Lib.hid (Sb.lg_miss hz.out)
      go_wp2
      go_ret
      rw [hh.out]
      exact ⟨rfl, rfl⟩
end Go.Proofs.YtjfgnojmdbfnmaaDoor
