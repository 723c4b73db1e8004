/-
  Plain mathematics of big-endian numbers: the bytes of a number, the number of bytes. Nothing of the program.
-/
import Derived.Below
import Derived.Laws.BitsLemmas
import Derived.Laws.BitsAllLaws
import Derived.Laws.Bits64
namespace Go.Proofs.YtjfgnojmdbfnmaaDoor.Wire

/-- The lowest k bytes of n, the most significant one first. -/
def be : Nat → Nat → List Nat
  | 0, _ => []
  | k + 1, n => (n / 256 ^ k % 256) :: be k n
theorem be_length (k n : Nat) : (be k n).length = k := by
  induction k with
  | zero => rfl
  | succ k ih => simp [be, ih]
theorem be_succ (k n : Nat) : be (k + 1) n = (n / 256 ^ k % 256) :: be k n := rfl
theorem be_lt (k n : Nat) : ∀ x ∈ be k n, x < 256 := by
  induction k with
  | zero => intro x hx; cases hx
  | succ k ih =>
    intro x hx
    rw [be_succ] at hx
    rcases List.mem_cons.1 hx with rfl | h
    · exact Nat.mod_lt _ (by decide)
    · exact ih x h
/-- The number that bytes make up. -/
def num (l : List Nat) : Nat := l.foldl (fun a x => a * 256 + x) 0
theorem num_nil : num [] = 0 := rfl
theorem num_snoc (l : List Nat) (x : Nat) : num (l ++ [x]) = num l * 256 + x := by
  unfold num; rw [List.foldl_append]; rfl
theorem num_from (l : List Nat) (a : Nat) : l.foldl (fun a x => a * 256 + x) a = a * 256 ^ l.length + num l := by
  induction l generalizing a with
  | nil => simp [num]
  | cons x l ih =>
    unfold num
    rw [List.foldl_cons, List.foldl_cons, ih, ih (0 * 256 + x), List.length_cons, Nat.pow_succ, Nat.zero_mul, Nat.zero_add, Nat.add_mul, Nat.mul_assoc, Nat.mul_comm 256, Nat.add_assoc]
theorem num_cons (x : Nat) (l : List Nat) : num (x :: l) = x * 256 ^ l.length + num l := by
  show List.foldl _ 0 (x :: l) = _
  rw [List.foldl_cons, num_from]; simp
theorem num_lt (l : List Nat) (h : ∀ x ∈ l, x < 256) : num l < 256 ^ l.length := by
  induction l with
  | nil => decide
  | cons x l ih =>
    rw [num_cons, List.length_cons, Nat.pow_succ]
    have h1 := ih fun y hy => h y (List.mem_cons_of_mem _ hy)
    have h2 := h x (List.mem_cons_self ..)
    have h3 : (x + 1) * 256 ^ l.length ≤ 256 * 256 ^ l.length := Nat.mul_le_mul_right _ h2
    rw [Nat.add_mul, Nat.one_mul] at h3
    rw [Nat.mul_comm (256 ^ l.length)]
    omega
theorem num_be (k n : Nat) : num (be k n) = n % 256 ^ k := by
  induction k with
  | zero => simp [be, num, Nat.mod_one]
  | succ k ih =>
    rw [be_succ, num_cons, ih, be_length, Nat.pow_succ, Nat.mod_mul, Nat.add_comm, Nat.mul_comm]
theorem pow_le (k : Nat) (h : k ≤ 8) : 256 ^ k ≤ 18446744073709551616 := by
  have : (256 : Nat) ^ k ≤ 256 ^ 8 := Nat.pow_le_pow_right (by decide) h
  exact this
theorem pow_le7 (k : Nat) (h : k ≤ 7) : 256 ^ k ≤ 72057594037927936 := by
  have : (256 : Nat) ^ k ≤ 256 ^ 7 := Nat.pow_le_pow_right (by decide) h
  exact this
/-- 'n<<8 | uint64(x)': one byte more. -/
theorem or_byte (p x : Nat) (hp : p < 72057594037927936) (hx : x < 256) : bits .or .u64 ((p : Int) * 256) (x : Int) = ((p * 256 + x : Nat) : Int) := by
  have e : (p : Int) * 256 = ((p * 256 : Nat) : Int) := by omega
  rw [e, u64_or_nat _ _ (by omega) (by omega)]
  have h := Nat.two_pow_add_eq_or_of_lt (i := 8) (b := x) (by omega) p
  have e2 : (2 : Nat) ^ 8 * p = p * 256 := by omega
  rw [e2] at h
  rw [h]
/-- 'byte(n >> (8*i))' as the walk writes it. -/
theorem byte_of (N k : Nat) : ∃ x : Nat, (N : Int) / 2 ^ (8 * k) % 256 = (x : Int) ∧ x < 256 ∧ x = N / 256 ^ k % 256 := by
  refine ⟨N / 256 ^ k % 256, ?_, Nat.mod_lt _ (by decide), rfl⟩
  have e : (2 : Nat) ^ (8 * k) = 256 ^ k := by rw [Nat.pow_mul]
  have h : ((2 : Int) ^ (8 * k)) = (((256 : Nat) ^ k : Nat) : Int) := by rw [← e]; simp
  rw [h]; omega
/-- 'n & (1<<uint(8*m) - 1)' as the walk writes it. -/
theorem and_low (N m : Nat) (hN : N < 18446744073709551616) (hm : m ≤ 7) : bits .and .u64 (N : Int) (IntKind.u64.wrap (IntKind.u64.wrap (2 ^ (8 * m)) - 1)) = ((N % 256 ^ m : Nat) : Int) := by
  have e : (2 : Nat) ^ (8 * m) = 256 ^ m := by rw [Nat.pow_mul]
  have h : ((2 : Int) ^ (8 * m)) = ((2 ^ (8 * m) : Nat) : Int) := by simp
  have hp := pow_le7 m hm
  have h1 : 0 < 256 ^ m := Nat.pow_pos (by decide)
  rw [h, IntKind.wrap_u64, IntKind.wrap_u64]
  have e2 : ((((2 ^ (8 * m) : Nat) : Int) % 18446744073709551616 - 1) % 18446744073709551616) = ((2 ^ (8 * m) - 1 : Nat) : Int) := by rw [e]; omega
  rw [e2, u64_and_nat _ _ hN (by rw [e]; omega), Nat.and_two_pow_sub_one_eq_mod, e]
theorem mod_all (N : Nat) (hN : N < 18446744073709551616) : N % 256 ^ 8 = N := Nat.mod_eq_of_lt hN
end Go.Proofs.YtjfgnojmdbfnmaaDoor.Wire
