/-
  The walk's integer operations on 32-bit numbers, said of vectors. No function of the program is named here.
-/
import Derived.Test.YtjfgnojmdbfnmaaDoorCrcMath
import Derived.WalkKit
import Derived.Laws.BitsAllLaws
namespace Go.Proofs.YtjfgnojmdbfnmaaDoor.Crc
open Go

/-- A vector as a number. Not to be opened by a walk. -/
def U (c : B32) : Nat := c.toNat
theorem U_lt (c : B32) : U c < 4294967296 := c.isLt
theorem of_range {x : Int} (h : 0 ≤ x ∧ x < 4294967296) : ∃ c : B32, x = (U c : Int) := ⟨BitVec.ofNat 32 x.toNat, by unfold U; rw [BitVec.toNat_ofNat, Nat.mod_eq_of_lt (by omega)]; omega⟩
theorem U_inj (a b : B32) (h : U a = U b) : a = b := BitVec.eq_of_toNat_eq h
theorem not_u32 (c : B32) : bits .xor .u32 IntKind.u32.max (U c : Int) = (U (~~~ c) : Int) := by
  have h : IntKind.u32.max = ((4294967295 : Nat) : Int) := by decide
  rw [h, u32_xor_nat 4294967295 (U c) (by decide) (U_lt c)]
  have h2 : (4294967295 : Nat) = (BitVec.allOnes 32).toNat := by decide
  unfold U
  rw [h2, ← BitVec.toNat_xor, BitVec.xor_comm, BitVec.xor_allOnes]
theorem xor_u32 (a b : B32) : bits .xor .u32 (U a : Int) (U b : Int) = (U (a ^^^ b) : Int) := by
  rw [u32_xor_nat _ _ (U_lt a) (U_lt b)]
  unfold U
  rw [BitVec.toNat_xor]
theorem byte_U (x : Nat) (hx : x < 256) : U (byte x) = x := by
  unfold byte U; rw [BitVec.toNat_ofNat]; exact Nat.mod_eq_of_lt (by omega)
theorem xor_byte (a : B32) (x : Nat) (hx : x < 256) : bits .xor .u32 (U a : Int) (x : Int) = (U (a ^^^ byte x) : Int) := by
  rw [← xor_u32, byte_U x hx]
theorem and_u32 (a : B32) (k : Nat) (hk : k < 4294967296) : bits .and .u32 (U a : Int) (k : Int) = (U (a &&& BitVec.ofNat 32 k) : Int) := by
  rw [u32_and_nat _ _ (U_lt a) hk]
  unfold U
  rw [BitVec.toNat_and, BitVec.toNat_ofNat, Nat.mod_eq_of_lt (by omega)]
theorem shr_u32 (a : B32) (k : Nat) : (U a : Int) / ((2 ^ k : Nat) : Int) = (U (a >>> k) : Int) := by
  unfold U
  rw [BitVec.toNat_ushiftRight, Nat.shiftRight_eq_div_pow]; rfl
/-- Four steps of the program's table. -/
theorem nib (d : B32) : bits .xor .u32 ((U d : Int) / 16) (((words.getD (U (d &&& 15#32)) 0 : Nat)) : Int) = (U (it 4 d) : Int) := by
  have h := shr_u32 d 4
  have e : words.getD (U (d &&& 15#32)) 0 = U (tab (U (d &&& 15#32))) := (tab_words _ (low_lt d)).symm
  rw [e, show (16 : Int) = ((2 ^ 4 : Nat) : Int) from rfl, h, xor_u32]
  have := it4 d
  unfold U at *
  rw [← this]
theorem low (d : B32) : bits .and .u32 (U d : Int) 15 = (U (d &&& 15#32) : Int) := and_u32 d 15 (by decide)
theorem low_U (d : B32) : U (d &&& 15#32) < 16 := low_lt d
/-- One round by the table, step by step: for a walk, every intermediate number under a name of its own. -/
theorem nib_names (d : B32) (w : World) (ht : ∀ k, k < 16 → w.cell? ⟨0, k, none⟩ = some (.int .u32 ((words.getD k 0 : Nat) : Int))) :
    ∃ (j t : Nat), j < 16 ∧ bits .and .u32 (U d : Int) 15 = (j : Int) ∧ w.cell? ⟨0, j, none⟩ = some (.int .u32 (t : Int)) ∧ bits .xor .u32 ((U d : Int) / 16) (t : Int) = (U (it 4 d) : Int) :=
  ⟨U (d &&& 15#32), words.getD (U (d &&& 15#32)) 0, low_U d, low d, ht _ (low_U d), nib d⟩
theorem ref_bit (k : Nat) (f : B32) (x : Nat) (hx : x < 256) :
    (bits .and .u32 (bits .xor .u32 (U (rs k f x) : Int) ((x : Int) / 2 ^ k % 4294967296)) 1 == 1) = (it k (f ^^^ byte x)).getLsbD 0 := by
  have h1 : ((x : Int) / 2 ^ k % 4294967296) = ((x / 2 ^ k : Nat) : Int) := by
    have e : ((x : Int) / 2 ^ k) = ((x / 2 ^ k : Nat) : Int) := by rw [Int.natCast_ediv, Int.natCast_pow]; rfl
    have hl : x / 2 ^ k < 256 := Nat.lt_of_le_of_lt (Nat.div_le_self _ _) hx
    rw [e]
    generalize x / 2 ^ k = y at hl
    omega
  rw [h1, xor_byte _ _ (Nat.lt_of_le_of_lt (Nat.div_le_self _ _) hx), rs_bit]
  generalize it k (f ^^^ byte x) = v
  have h2 := and_u32 v 1 (by decide)
  rw [show ((1 : Nat) : Int) = 1 from rfl] at h2
  rw [h2]
  have h3 : U (v &&& BitVec.ofNat 32 1) = v.toNat % 2 := by
    unfold U; rw [BitVec.toNat_and]; exact Nat.and_two_pow_sub_one_eq_mod v.toNat 1
  rw [h3, BitVec.getLsbD, Nat.testBit_zero]
  by_cases h : v.toNat % 2 = 1
  · rw [h]; rfl
  · have h0 : v.toNat % 2 = 0 := by omega
    rw [h0]; rfl
theorem half (s : B32) : (U s : Int) / (2 : Int) = (U (s >>> 1) : Int) := shr_u32 s 1
theorem ref_yes (k : Nat) (f : B32) (x : Nat) (hx : x < 256) (h : (it k (f ^^^ byte x)).getLsbD 0 = true) :
    bits .xor .u32 ((U (rs k f x) : Int) / 2) 2197175160 = (U (rs (k + 1) f x) : Int) := by
  rw [half, rs_next k f x hx, h, if_pos rfl, ← xor_u32]
  rfl
theorem ref_no (k : Nat) (f : B32) (x : Nat) (hx : x < 256) (h : (it k (f ^^^ byte x)).getLsbD 0 = false) :
    (U (rs k f x) : Int) / 2 = (U (rs (k + 1) f x) : Int) := by
  rw [half, rs_next k f x hx, h, if_neg (by decide), BitVec.xor_zero]
theorem test_one (c : B32) : (bits .and .u32 (U c : Int) 1 == 1) = c.getLsbD 0 := by
  have h2 := and_u32 c 1 (by decide)
  rw [show ((1 : Nat) : Int) = 1 from rfl] at h2
  rw [h2]
  have h3 : U (c &&& BitVec.ofNat 32 1) = c.toNat % 2 := by
    unfold U; rw [BitVec.toNat_and]; exact Nat.and_two_pow_sub_one_eq_mod c.toNat 1
  rw [h3, BitVec.getLsbD, Nat.testBit_zero]
  by_cases h : c.toNat % 2 = 1
  · rw [h]; rfl
  · have h0 : c.toNat % 2 = 0 := by omega
    rw [h0]; rfl
theorem st_yes (c : B32) (h : c.getLsbD 0 = true) : bits .xor .u32 ((U c : Int) / 2) 2197175160 = (U (st c) : Int) := by
  unfold st
  rw [half, h, if_pos rfl, ← xor_u32]; rfl
theorem st_no (c : B32) (h : c.getLsbD 0 = false) : (U c : Int) / 2 = (U (st c) : Int) := by
  unfold st
  rw [half, h, if_neg (by decide), BitVec.xor_zero]
theorem zero_iff (b : B32) : ((U b : Int) != 0) = (b != 0#32) := by
  by_cases h : b = 0#32
  · subst h; rfl
  · have h1 : U b ≠ 0 := fun e => h (U_inj _ _ e)
    have h2 : (b != 0#32) = true := by simpa using h
    rw [h2]; simp; exact h1
theorem top_bit (b : B32) : (bits .and .u32 (U b : Int) 2147483648 != 0) = b.getLsbD 31 := by
  have h2 := and_u32 b 2147483648 (by decide)
  rw [show ((2147483648 : Nat) : Int) = 2147483648 from rfl] at h2
  rw [h2, zero_iff]
  cases hb : b.getLsbD 31 with
  | true =>
    have : b &&& BitVec.ofNat 32 2147483648 ≠ 0#32 := fun e => by
      have := congrArg (fun z : B32 => z.getLsbD 31) e
      simp only [BitVec.getLsbD_and, hb] at this
      exact absurd this (by decide)
    simpa using this
  | false =>
    have : b &&& BitVec.ofNat 32 2147483648 = 0#32 := by
      apply BitVec.eq_of_getLsbD_eq
      intro i hi
      rw [BitVec.getLsbD_and, show BitVec.ofNat 32 2147483648 = BitVec.twoPow 32 31 from by decide, BitVec.getLsbD_twoPow]
      by_cases e : 31 = i
      · subst e; rw [hb]; simp
      · simp [e]
    rw [this]; rfl
theorem shl_one (b : B32) : (U b : Int) * (2 : Int) % (4294967296 : Int) = (U (b <<< 1) : Int) := by
  unfold U
  rw [BitVec.toNat_shiftLeft, Nat.shiftLeft_eq]
  omega
theorem odd_i64 (m : Nat) (h : m < 9223372036854775808) : bits .and .i64 (m : Int) 1 = ((m % 2 : Nat) : Int) := by
  have h1 : (BitVec.ofInt 64 1).toNat = 1 := by decide
  have h2 : (BitVec.ofInt 64 (m : Int)).toNat = m := by
    rw [BitVec.ofInt_natCast, BitVec.toNat_ofNat]; exact Nat.mod_eq_of_lt (by omega)
  have h3 : m &&& 1 = m % 2 := Nat.and_two_pow_sub_one_eq_mod m 1
  show IntKind.i64.wrap ((BitVec.ofInt 64 (m : Int) &&& BitVec.ofInt 64 1).toNat : Int) = _
  rw [BitVec.toNat_and, h1, h2, h3, IntKind.wrap_i64]
  omega
theorem odd_test (m : Nat) (h : m < 9223372036854775808) : (bits .and .i64 (m : Int) 1 == 1) = decide (m % 2 = 1) := by
  rw [odd_i64 m h]
  by_cases h1 : m % 2 = 1
  · rw [h1]; rfl
  · have h0 : m % 2 = 0 := by omega
    rw [h0]; rfl
end Go.Proofs.YtjfgnojmdbfnmaaDoor.Crc
