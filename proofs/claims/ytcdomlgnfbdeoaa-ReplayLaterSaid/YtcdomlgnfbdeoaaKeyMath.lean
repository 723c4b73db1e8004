/-
  Plain mathematics of the hashes of keys, on vectors of 64 bits; and the walk's integer operations on 64-bit numbers, said of vectors. Nothing of the program.
-/
import Derived.Below
import Derived.Laws.BitsLemmas
import Derived.Laws.BitsAllLaws
import Derived.Laws.Bits64
namespace Go.Proofs.Ytcdomlgnfbdeoaa.Key
open Go

abbrev B64 := BitVec 64
/-- A vector as a number. Not to be opened by a walk. -/
def V (c : B64) : Nat := c.toNat
theorem V_lt (c : B64) : V c < 18446744073709551616 := c.isLt
theorem V_inj (a b : B64) (h : V a = V b) : a = b := BitVec.eq_of_toNat_eq h
theorem of_range {N : Nat} (h : N < 18446744073709551616) : ∃ c : B64, N = V c := ⟨BitVec.ofNat 64 N, by unfold V; rw [BitVec.toNat_ofNat, Nat.mod_eq_of_lt (by omega)]⟩
def byte (x : Nat) : B64 := BitVec.ofNat 64 x
theorem byte_V (x : Nat) (hx : x < 256) : V (byte x) = x := by
  unfold byte V; rw [BitVec.toNat_ofNat]; exact Nat.mod_eq_of_lt (by omega)
theorem xor_u64 (a b : B64) : bits .xor .u64 (V a : Int) (V b : Int) = (V (a ^^^ b) : Int) := by
  rw [u64_xor_nat _ _ (V_lt a) (V_lt b)]
  unfold V
  rw [BitVec.toNat_xor]
theorem xor_byte (a : B64) (x : Nat) (hx : x < 256) : bits .xor .u64 (V a : Int) (x : Int) = (V (a ^^^ byte x) : Int) := by
  rw [← xor_u64, byte_V x hx]
theorem shr33 (a : B64) : (V a : Int) / (8589934592 : Int) = (V (a >>> 33) : Int) := by
  unfold V
  rw [BitVec.toNat_ushiftRight, Nat.shiftRight_eq_div_pow]; rfl
theorem xorshift (a : B64) : bits .xor .u64 (V a : Int) ((V a : Int) / (8589934592 : Int)) = (V (a ^^^ a >>> 33) : Int) := by
  rw [shr33, xor_u64]
theorem mul_u64 (a : B64) (k : Nat) (hk : k < 18446744073709551616) : (V a : Int) * (k : Int) % (18446744073709551616 : Int) = (V (a * BitVec.ofNat 64 k) : Int) := by
  unfold V
  rw [BitVec.toNat_mul, BitVec.toNat_ofNat, Nat.mod_eq_of_lt (show k < 2 ^ 64 from hk)]
  simp

theorem mul_wrap (a : B64) (k : Nat) (hk : k < 18446744073709551616) : IntKind.u64.wrap ((V a : Int) * (k : Int)) = (V (a * BitVec.ofNat 64 k) : Int) := by
  rw [IntKind.wrap_u64, mul_u64 a k hk]
theorem mul_c1 (a : B64) : IntKind.u64.wrap ((V a : Int) * (18397679294719823053 : Int)) = (V (a * 18397679294719823053#64) : Int) := mul_wrap a 18397679294719823053 (by decide)
theorem mul_c2 (a : B64) : IntKind.u64.wrap ((V a : Int) * (14181476777654086739 : Int)) = (V (a * 14181476777654086739#64) : Int) := mul_wrap a 14181476777654086739 (by decide)
theorem mul_p (a : B64) : IntKind.u64.wrap ((V a : Int) * (1099511628211 : Int)) = (V (a * 1099511628211#64) : Int) := mul_wrap a 1099511628211 (by decide)

/-! The hash. -/
def push (h : B64) (x : Nat) : B64 := (h ^^^ byte x) * 1099511628211#64
def fnv (l : List Nat) : B64 := l.foldl push 14695981039346656037#64
def xs (h : B64) : B64 := h ^^^ h >>> 33
def mix (h : B64) : B64 := xs (xs (xs h * 18397679294719823053#64) * 14181476777654086739#64)
def hash (l : List Nat) : B64 := mix (fnv l)
/-- The final mix, step by step: for a walk, every intermediate number under a name of its own. -/
theorem mix_names (h : B64) : ∃ a b c d : B64, bits .xor .u64 (V h : Int) ((V h : Int) / (8589934592 : Int)) = (V a : Int) ∧ IntKind.u64.wrap ((V a : Int) * (18397679294719823053 : Int)) = (V b : Int) ∧
    bits .xor .u64 (V b : Int) ((V b : Int) / (8589934592 : Int)) = (V c : Int) ∧ IntKind.u64.wrap ((V c : Int) * (14181476777654086739 : Int)) = (V d : Int) ∧ bits .xor .u64 (V d : Int) ((V d : Int) / (8589934592 : Int)) = (V (mix h) : Int) :=
  ⟨xs h, _, _, _, xorshift h, mul_c1 _, xorshift _, mul_c2 _, xorshift _⟩
theorem push_names (h : B64) (x : Nat) (hx : x < 256) : ∃ a b : B64, bits .xor .u64 (V h : Int) (x : Int) = (V a : Int) ∧ IntKind.u64.wrap ((V a : Int) * (1099511628211 : Int)) = (V b : Int) ∧ b = push h x :=
  ⟨_, _, xor_byte h x hx, mul_p _, rfl⟩
theorem fnv_nil : fnv [] = 14695981039346656037#64 := rfl
theorem fnv_snoc (l : List Nat) (x : Nat) : fnv (l ++ [x]) = push (fnv l) x := by unfold fnv; rw [List.foldl_append]; rfl

/-! Every step is one to one. -/
theorem mul_inj (p q : B64) (h : p * q = 1#64) (a b : B64) (e : a * p = b * p) : a = b := by
  have h1 : ∀ c : B64, c * p * q = c := fun c => by rw [BitVec.mul_assoc, h, BitVec.mul_one]
  rw [← h1 a, e, h1 b]
theorem xs_twice (a : B64) : xs (xs a) = a := by
  apply BitVec.eq_of_getLsbD_eq
  intro i hi
  unfold xs
  simp only [BitVec.getLsbD_xor, BitVec.getLsbD_ushiftRight]
  rw [BitVec.getLsbD_of_ge a (33 + (33 + i)) (by omega)]
  cases a.getLsbD i <;> cases a.getLsbD (33 + i) <;> rfl
theorem xs_inj (a b : B64) (e : xs a = xs b) : a = b := by rw [← xs_twice a, e, xs_twice b]
theorem mix_inj (a b : B64) (e : mix a = mix b) : a = b :=
  xs_inj _ _ (mul_inj _ 5725274745694666757#64 (by decide) _ _ (xs_inj _ _ (mul_inj _ 11291846944257947611#64 (by decide) _ _ (xs_inj _ _ e))))
theorem byte_inj (x y : Nat) (hx : x < 256) (hy : y < 256) (e : byte x = byte y) : x = y := by rw [← byte_V x hx, e, byte_V y hy]
theorem hash_last (l : List Nat) (a b : Nat) (ha : a < 256) (hb : b < 256) (e : hash (l ++ [a]) = hash (l ++ [b])) : a = b := by
  have h1 := mix_inj _ _ e
  rw [fnv_snoc, fnv_snoc] at h1
  have h2 := mul_inj _ 14886173955864302971#64 (by decide) _ _ h1
  refine byte_inj a b ha hb ?_
  have h3 : ∀ c : B64, fnv l ^^^ (fnv l ^^^ c) = c := fun c => by rw [← BitVec.xor_assoc, BitVec.xor_self, BitVec.zero_xor]
  rw [← h3 (byte a), h2, h3]
/-- What HashOne compares: two hashes are equal exactly if the last bytes are. -/
theorem hash_one (l : List Nat) (a b : Nat) (ha : a < 256) (hb : b < 256) :
    (((V (hash (l ++ [a])) : Nat) : Int) == ((V (hash (l ++ [b])) : Nat) : Int)) = ((a : Int) == (b : Int)) := by
  by_cases h : a = b
  · subst h; simp
  · have h1 : V (hash (l ++ [a])) ≠ V (hash (l ++ [b])) := fun e => h (hash_last l a b ha hb (V_inj _ _ e))
    have h2 : ((V (hash (l ++ [a])) : Nat) : Int) ≠ ((V (hash (l ++ [b])) : Nat) : Int) := by omega
    have h3 : (a : Int) ≠ (b : Int) := by omega
    rw [beq_eq_false_iff_ne.2 h2, beq_eq_false_iff_ne.2 h3]

/-! Home and Row. -/
/-- The highest bits. -/
def home (N : Nat) (n : Int) : Nat := if n < 1 ∨ 30 < n then 0 else N / 2 ^ (64 - n.toNat)
def row (N : Nat) (r : Int) : Nat := if r < 0 ∨ 3 < r then 0 else N / 64 ^ r.toNat % 64
theorem home_out (N : Nat) (n : Int) (h : n < 1 ∨ 30 < n) : home N n = 0 := if_pos h
theorem home_in (N n : Nat) (h : 1 ≤ n) (h2 : n ≤ 30) : home N (n : Int) = N / 2 ^ (64 - n) := by
  unfold home; rw [if_neg (by omega), Int.toNat_natCast]
theorem home_lt (N : Nat) (n : Int) (hN : N < 18446744073709551616) : home N n < 1073741824 := by
  by_cases h : n < 1 ∨ 30 < n
  · rw [home_out N n h]; decide
  · obtain ⟨m, rfl⟩ : ∃ m : Nat, n = (m : Int) := ⟨n.toNat, by omega⟩
    rw [home_in N m (by omega) (by omega)]
    refine Nat.lt_of_le_of_lt (Nat.div_le_div_left (show (2 : Nat) ^ 34 ≤ 2 ^ (64 - m) from Nat.pow_le_pow_right (by decide) (by omega)) (by decide)) ?_
    omega
theorem home_half (N n : Nat) (h : 1 ≤ n) (h2 : n ≤ 29) : home N ((n : Int) + 1) / 2 = home N (n : Int) := by
  rw [show (n : Int) + 1 = ((n + 1 : Nat) : Int) from rfl, home_in N (n + 1) (by omega) (by omega), home_in N n h (by omega), Nat.div_div_eq_div_mul, ← Nat.pow_succ]
  congr 2
  omega
theorem row_out (N : Nat) (r : Int) (h : r < 0 ∨ 3 < r) : row N r = 0 := if_pos h
theorem row_in (N r : Nat) (h : r ≤ 3) : row N (r : Int) = N / 64 ^ r % 64 := by
  unfold row; rw [if_neg (by omega), Int.toNat_natCast]
theorem row_lt (N : Nat) (r : Int) : row N r < 64 := by
  unfold row; split
  · decide
  · exact Nat.mod_lt _ (by decide)
end Go.Proofs.Ytcdomlgnfbdeoaa.Key
