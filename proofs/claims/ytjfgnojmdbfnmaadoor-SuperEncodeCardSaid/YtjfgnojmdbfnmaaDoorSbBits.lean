/-
  The walks of bits.OnesCount and bits.Len at the sizes of regions, of exponent, power and the definition's log.
-/
import Derived.Test.YtjfgnojmdbfnmaaDoorSbMath
import Derived.Test.YtjfgnojmdbfnmaaDoorHdWords
namespace Go.Proofs.YtjfgnojmdbfnmaaDoor
open Go.RowKit
namespace Sb
def b1 (x : Int) : Int := IntKind.u64.wrap (bits .and .u64 (x / 2) 6148914691236517205 + bits .and .u64 x 6148914691236517205)
def b2 (x : Int) : Int := IntKind.u64.wrap (bits .and .u64 (x / 4) 3689348814741910323 + bits .and .u64 x 3689348814741910323)
def b3 (x : Int) : Int := bits .and .u64 (IntKind.u64.wrap (x / 16 + x)) 1085102592571150095
def b4 (x : Int) : Int := IntKind.u64.wrap (x + x / 256)
def b5 (x : Int) : Int := IntKind.u64.wrap (x + x / 65536)
def b6 (x : Int) : Int := IntKind.u64.wrap (x + x / 4294967296)
/-- How many bits are 1, as bits.OnesCount64 reckons. -/
def ones (x : Int) : Int := bits .and .i64 (wrap64 (b6 (b5 (b4 (b3 (b2 (b1 x))))))) 127
theorem ones_table : ((List.range 2049).all fun n => (ones (n : Int) == 1) == decide (pw (n : Int) ∨ n = 1)) = true := by decide +kernel
theorem ones_pw (n : Nat) (h1 : 2 ≤ n) (h2 : n ≤ 2048) : (ones (n : Int) == 1) = decide (pw (n : Int)) := by
  have h := List.all_eq_true.1 ones_table n (List.mem_range.2 (by omega))
  rw [beq_iff_eq] at h
  rw [h]
  refine decide_eq_decide.2 ⟨fun h => ?_, .inl⟩
  rcases h with h | h
  · exact h
  · omega
end Sb
theorem onescount64_any (n : Nat) (w : World) : Calls Tryd.prog 67 #[.int .u64 (n : Int)] w fun e w' => e = .returned (.int .i64 (Sb.ones n)) ∧ w = w' := by
  go_enter Tryd.func67, Tryd.ntmps67
  go_wp2
  go_ret
  exact ⟨rfl, rfl⟩
theorem onescount_any (n : Nat) (h1 : 2 ≤ n) (h2 : n ≤ 2048) (w : World) : Calls Tryd.prog 45 #[.int .u64 (n : Int)] w fun e w' => (∃ r : Int, e = .returned (.int .i64 r) ∧ (r == 1) = decide (Sb.pw (n : Int))) ∧ w = w' := by
  have HC := Lib.hid (onescount64_any n w)
  have HE := Lib.hid (Sb.ones_pw n h1 h2)
  generalize Sb.ones (n : Int) = r at *
  generalize decide (Sb.pw (n : Int)) = t at *
  clear h1 h2
  go_enter Tryd.func45, Tryd.ntmps45
  go_wp2_with fail
  refine HC.out.mono ?_
  rintro e w' ⟨rfl, rfl⟩
  go_wp2
  go_ret
  exact ⟨⟨r, rfl, HE.out⟩, rfl⟩
/-- The sizes, their lengths in bits, their exponents. -/
def Sb.Lit (n r q : Int) : Prop := (n = 0 ∧ r = 0 ∧ q = 0) ∨ (n = 2 ∧ r = 2 ∧ q = 1) ∨ (n = 4 ∧ r = 3 ∧ q = 2) ∨ (n = 8 ∧ r = 4 ∧ q = 3) ∨ (n = 16 ∧ r = 5 ∧ q = 4) ∨ (n = 32 ∧ r = 6 ∧ q = 5) ∨ (n = 64 ∧ r = 7 ∧ q = 6) ∨ (n = 128 ∧ r = 8 ∧ q = 7) ∨ (n = 256 ∧ r = 9 ∧ q = 8) ∨ (n = 512 ∧ r = 10 ∧ q = 9) ∨ (n = 1024 ∧ r = 11 ∧ q = 10) ∨ (n = 2048 ∧ r = 12 ∧ q = 11)
theorem Sb.lit_of {n : Int} (h : n = 0 ∨ Sb.pw n) : ∃ r, Sb.Lit n r (Sb.ex n : Int) := by
  unfold Sb.pw at h
  rcases h with rfl | rfl | rfl | rfl | rfl | rfl | rfl | rfl | rfl | rfl | rfl | rfl
  · exact ⟨0, by unfold Sb.Lit; decide⟩
  · exact ⟨2, by unfold Sb.Lit; decide⟩
  · exact ⟨3, by unfold Sb.Lit; decide⟩
  · exact ⟨4, by unfold Sb.Lit; decide⟩
  · exact ⟨5, by unfold Sb.Lit; decide⟩
  · exact ⟨6, by unfold Sb.Lit; decide⟩
  · exact ⟨7, by unfold Sb.Lit; decide⟩
  · exact ⟨8, by unfold Sb.Lit; decide⟩
  · exact ⟨9, by unfold Sb.Lit; decide⟩
  · exact ⟨10, by unfold Sb.Lit; decide⟩
  · exact ⟨11, by unfold Sb.Lit; decide⟩
  · exact ⟨12, by unfold Sb.Lit; decide⟩
set_option maxRecDepth 100000 in
theorem sblen_any (n r q : Int) (h : Sb.Lit n r q) (w : World) : Calls Tryd.prog 78 #[.int .u64 n] w fun e w' => e = .returned (.int .i64 r) ∧ w = w' := by
  have H64 : Calls Tryd.prog 80 #[.int .u64 n] w fun e w' => e = .returned (.int .i64 r) ∧ w = w' := by
    unfold Sb.Lit at h
    rcases h with ⟨rfl, rfl, rfl⟩ | ⟨rfl, rfl, rfl⟩ | ⟨rfl, rfl, rfl⟩ | ⟨rfl, rfl, rfl⟩ | ⟨rfl, rfl, rfl⟩ | ⟨rfl, rfl, rfl⟩ | ⟨rfl, rfl, rfl⟩ | ⟨rfl, rfl, rfl⟩ | ⟨rfl, rfl, rfl⟩ | ⟨rfl, rfl, rfl⟩ | ⟨rfl, rfl, rfl⟩ | ⟨rfl, rfl, rfl⟩
    all_goals
      go_enter Tryd.func80, Tryd.ntmps80
      go_wp2
      go_ret
      exact ⟨by kernel_rfl, rfl⟩
  have HC := Lib.hid H64
  clear H64 h
  go_enter Tryd.func78, Tryd.ntmps78
  go_wp2_with fail
  refine HC.out.mono ?_
  rintro e w' ⟨rfl, rfl⟩
  go_wp2
  go_ret
  exact ⟨rfl, rfl⟩
theorem sbexponent_lit (n r q : Int) (h : Sb.Lit n r q) (w : World) : Calls Tryd.prog 76 #[.int .i64 n] w fun e w' => e = .returned (.int .u64 q) ∧ w = w' := by
  have HC := Lib.hid (sblen_any n r q h w)
  unfold Sb.Lit at h
  rcases h with ⟨rfl, rfl, rfl⟩ | ⟨rfl, rfl, rfl⟩ | ⟨rfl, rfl, rfl⟩ | ⟨rfl, rfl, rfl⟩ | ⟨rfl, rfl, rfl⟩ | ⟨rfl, rfl, rfl⟩ | ⟨rfl, rfl, rfl⟩ | ⟨rfl, rfl, rfl⟩ | ⟨rfl, rfl, rfl⟩ | ⟨rfl, rfl, rfl⟩ | ⟨rfl, rfl, rfl⟩ | ⟨rfl, rfl, rfl⟩
  all_goals
    go_enter Tryd.func76, Tryd.ntmps76
    go_wp2_with fail
    refine HC.out.mono ?_
    rintro e w' ⟨rfl, rfl⟩
    go_wp2
    go_ret
    exact ⟨rfl, rfl⟩
theorem sbexponent_any (n : Int) (h : n = 0 ∨ Sb.pw n) (w : World) : Calls Tryd.prog 76 #[.int .i64 n] w fun e w' => e = .returned (.int .u64 (Sb.ex n : Int)) ∧ w = w' := by
  obtain ⟨r, hr⟩ := Sb.lit_of h
  exact sbexponent_lit n r _ hr w
theorem sbpower_any (k : Nat) (hk : k < 256) (w : World) : Calls Tryd.prog 77 #[.int .u64 (k : Int)] w fun e w' => e = .returned (.int .i64 (Sb.p64 k)) ∧ w = w' := by
  by_cases h : k = 0
  · subst h
    go_enter Tryd.func77, Tryd.ntmps77
    go_wp2
    go_ret
    exact ⟨rfl, rfl⟩
  · have hd : ((k : Int) == 0) = false := by rw [beq_eq_false_iff_ne]; omega
    go_enter Tryd.func77, Tryd.ntmps77
    go_wp2
    go_ret
    refine ⟨congrArg Ending.returned (show Value.int .i64 _ = Value.int .i64 _ from congrArg (Value.int .i64) ?_), rfl⟩
    unfold Sb.p64
    rw [if_neg h]
    simp only [wrap64]
end Go.Proofs.YtjfgnojmdbfnmaaDoor
