/-
  Plain mathematics of CRC-32C on 32-bit vectors: the one-bit step is linear and one-to-one, four and eight steps, messages, products of polynomials. No program is named here.
-/
namespace Go.Proofs.YtjfgnojmdbfnmaaDoor.Crc

abbrev B32 := BitVec 32
def P : B32 := 0x82F63B78#32
/-- One step: shift right by one bit; the bit that went out adds the polynomial. -/
def st (c : B32) : B32 := (c >>> 1) ^^^ (if c.getLsbD 0 then P else 0#32)
def it : Nat → B32 → B32
  | 0, c => c
  | n + 1, c => it n (st c)

theorem xor_comm4 (a b c d : B32) : (a ^^^ b) ^^^ (c ^^^ d) = (a ^^^ c) ^^^ (b ^^^ d) := by
  rw [BitVec.xor_assoc, BitVec.xor_assoc, ← BitVec.xor_assoc b c d, BitVec.xor_comm b c, BitVec.xor_assoc c b d]

theorem st_xor (a b : B32) : st (a ^^^ b) = st a ^^^ st b := by
  unfold st
  rw [BitVec.ushiftRight_xor_distrib, BitVec.getLsbD_xor, xor_comm4]
  congr 1
  cases a.getLsbD 0 <;> cases b.getLsbD 0 <;> simp
theorem st_zero : st 0#32 = 0#32 := by decide
theorem it_xor (n : Nat) : ∀ a b : B32, it n (a ^^^ b) = it n a ^^^ it n b := by
  induction n with
  | zero => intro a b; rfl
  | succ n ih => intro a b; unfold it; rw [st_xor, ih]
theorem it_zero (n : Nat) : it n 0#32 = 0#32 := by
  induction n with
  | zero => rfl
  | succ n ih => unfold it; rw [st_zero, ih]
theorem it_add (m : Nat) : ∀ (n : Nat) (a : B32), it (m + n) a = it n (it m a) := by
  induction m with
  | zero => intro n a; rw [Nat.zero_add]; rfl
  | succ m ih => intro n a; rw [Nat.succ_add]; exact ih n (st a)
theorem it_succ (n : Nat) (a : B32) : it (n + 1) a = st (it n a) := by rw [it_add]; rfl
theorem it_comm (m n : Nat) (a : B32) : it m (it n a) = it n (it m a) := by rw [← it_add, ← it_add, Nat.add_comm]

/-- The step is one-to-one: the polynomial's highest bit is 1. -/
theorem st_inj0 (a : B32) (h : st a = 0#32) : a = 0#32 := by
  have hb : ∀ i, (st a).getLsbD i = false := by intro i; rw [h]; simp
  have h31 := hb 31
  have e31 : (st a).getLsbD 31 = a.getLsbD 0 := by
    unfold st
    rw [BitVec.getLsbD_xor, BitVec.getLsbD_ushiftRight]
    have : a.getLsbD 32 = false := BitVec.getLsbD_of_ge _ _ (by omega)
    rw [show 1 + 31 = 32 from rfl, this]
    cases a.getLsbD 0 <;> decide
  rw [e31] at h31
  apply BitVec.eq_of_getLsbD_eq
  intro i hi
  cases i with
  | zero => rw [h31]; simp
  | succ i =>
    have := hb i
    unfold st at this
    rw [h31] at this
    simp only [Bool.false_eq_true, if_false, BitVec.xor_zero, BitVec.getLsbD_ushiftRight] at this
    rw [Nat.add_comm] at this
    rw [this]; simp
theorem it_inj0 (n : Nat) : ∀ a : B32, it n a = 0#32 → a = 0#32 := by
  induction n with
  | zero => intro a h; exact h
  | succ n ih => intro a h; exact st_inj0 a (ih _ h)

/-- Where the low n bits are 0, n steps only shift. -/
theorem it_shr (n : Nat) : ∀ a : B32, (∀ i, i < n → a.getLsbD i = false) → it n a = a >>> n := by
  induction n with
  | zero => intro a _; simp [it]
  | succ n ih =>
    intro a h
    have h0 : st a = a >>> 1 := by unfold st; rw [h 0 (by omega)]; simp
    unfold it
    rw [h0, ih (a >>> 1) (by intro i hi; rw [BitVec.getLsbD_ushiftRight]; exact h (1 + i) (by omega))]
    rw [← BitVec.shiftRight_add, Nat.add_comm]

/-- What the table holds: four steps of each low nibble. -/
def tab (k : Nat) : B32 := it 4 (BitVec.ofNat 32 k)
theorem split_low (a : B32) (n : Nat) : a = ((a >>> n) <<< n) ^^^ (a &&& BitVec.ofNat 32 (2 ^ n - 1)) := by
  apply BitVec.eq_of_getLsbD_eq
  intro i hi
  rw [BitVec.getLsbD_xor, BitVec.getLsbD_and, BitVec.getLsbD_shiftLeft, BitVec.getLsbD_ushiftRight, BitVec.getLsbD_ofNat, Nat.testBit_two_pow_sub_one]
  by_cases h : i < n
  · simp [h, hi]
  · simp only [h, hi, decide_true, decide_false, Bool.not_false, Bool.and_true, Bool.true_and, Bool.and_false, Bool.xor_false]
    rw [show n + (i - n) = i by omega]
theorem it4 (a : B32) : it 4 a = (a >>> 4) ^^^ tab (a &&& 15#32).toNat := by
  conv => lhs; rw [split_low a 4]
  rw [it_xor, it_shr 4 _ (by intro i hi; rw [BitVec.getLsbD_shiftLeft]; simp [hi])]
  congr 1
  · apply BitVec.eq_of_getLsbD_eq
    intro i hi
    rw [BitVec.getLsbD_ushiftRight, BitVec.getLsbD_shiftLeft, BitVec.getLsbD_ushiftRight]
    by_cases h : 4 + i < 32
    · simp [h]
    · have : a.getLsbD (4 + i) = false := BitVec.getLsbD_of_ge _ _ (by omega)
      simp [this]
  · unfold tab; rw [BitVec.ofNat_toNat]; simp
theorem low_lt (a : B32) : (a &&& 15#32).toNat < 16 := by
  rw [BitVec.toNat_and]; exact Nat.lt_of_le_of_lt Nat.and_le_right (by decide)

/-- A byte into a state. -/
def byte (x : Nat) : B32 := BitVec.ofNat 32 x
def push (c : B32) (x : Nat) : B32 := it 8 (c ^^^ byte x)
def fold (c : B32) (l : List Nat) : B32 := l.foldl push c
def upd (c : B32) (l : List Nat) : B32 := ~~~ (fold (~~~ c) l)
theorem fold_nil (c : B32) : fold c [] = c := rfl
theorem fold_cons (c : B32) (x : Nat) (l : List Nat) : fold c (x :: l) = fold (push c x) l := rfl
theorem fold_append (c : B32) (l m : List Nat) : fold c (l ++ m) = fold (fold c l) m := by unfold fold; rw [List.foldl_append]
theorem upd_append (c : B32) (l m : List Nat) : upd c (l ++ m) = upd (upd c l) m := by unfold upd; rw [fold_append, BitVec.not_not]
theorem upd_nil (c : B32) : upd c [] = c := by unfold upd; rw [fold_nil, BitVec.not_not]

theorem fold_lin (l : List Nat) : ∀ c d : B32, fold (c ^^^ d) l = it (8 * l.length) c ^^^ fold d l := by
  induction l with
  | nil => intro c d; rfl
  | cons x l ih =>
    intro c d
    rw [fold_cons, fold_cons]
    unfold push
    rw [BitVec.xor_assoc, it_xor, ih, List.length_cons, Nat.mul_add, Nat.mul_one, Nat.add_comm, it_add]

theorem not_xor_ones (c : B32) : ~~~ c = c ^^^ ~~~ 0#32 := by rw [show ~~~ (0#32) = BitVec.allOnes 32 from by decide, BitVec.xor_allOnes]

/-! Bit by bit: the byte is shifted beside the state. -/
def rs (k : Nat) (c : B32) (x : Nat) : B32 := it k (c ^^^ byte x) ^^^ byte (x / 2 ^ k)
theorem rs_zero (c : B32) (x : Nat) : rs 0 c x = c := by
  unfold rs it; rw [Nat.pow_zero, Nat.div_one, BitVec.xor_assoc, BitVec.xor_self, BitVec.xor_zero]
theorem rs_end (c : B32) (x : Nat) (hx : x < 256) : rs 8 c x = push c x := by
  unfold rs push; rw [Nat.div_eq_of_lt (by omega)]; simp [byte]
theorem byte_half (y : Nat) (hy : y < 256) : byte y >>> 1 = byte (y / 2) := by
  apply BitVec.eq_of_toNat_eq
  unfold byte
  rw [BitVec.toNat_ushiftRight, BitVec.toNat_ofNat, BitVec.toNat_ofNat, Nat.mod_eq_of_lt (by omega), Nat.mod_eq_of_lt (by omega), Nat.shiftRight_eq_div_pow]
theorem rs_bit (k : Nat) (c : B32) (x : Nat) : rs k c x ^^^ byte (x / 2 ^ k) = it k (c ^^^ byte x) := by
  unfold rs; rw [BitVec.xor_assoc, BitVec.xor_self, BitVec.xor_zero]
theorem rs_next (k : Nat) (c : B32) (x : Nat) (hx : x < 256) :
    rs (k + 1) c x = (rs k c x >>> 1) ^^^ (if (it k (c ^^^ byte x)).getLsbD 0 then P else 0#32) := by
  unfold rs
  rw [it_succ, BitVec.ushiftRight_xor_distrib, byte_half _ (Nat.lt_of_le_of_lt (Nat.div_le_self _ _) hx), Nat.div_div_eq_div_mul, ← Nat.pow_succ]
  unfold st
  rw [BitVec.xor_assoc, BitVec.xor_assoc]
  congr 1
  exact BitVec.xor_comm _ _

/-- Two checksums make a third: the first one moves on by the second message's bytes. -/
theorem upd_combine (a b : List Nat) : upd 0#32 (a ++ b) = it (8 * b.length) (upd 0#32 a) ^^^ upd 0#32 b := by
  rw [upd_append]
  generalize upd 0#32 a = x
  unfold upd
  rw [not_xor_ones x, fold_lin, not_xor_ones (it _ x ^^^ _), not_xor_ones (fold _ b), BitVec.xor_assoc]

/-- Sixteen words of the table, as the program has them. -/
def words : List Nat := [0, 274646895, 549293790, 820201905, 1098587580, 1361435347, 1640403810, 1905808397, 2197175160, 2460548119, 2722870694, 2987750089, 3280807620, 3553878443, 3811616794, 4084100981]
theorem tab_words : ∀ k, k < 16 → (tab k).toNat = words.getD k 0 := by decide +kernel

/-- The checksum of the digits. -/
theorem digits : upd 0#32 [49, 50, 51, 52, 53, 54, 55, 56, 57] = 3808858755#32 := by decide +kernel

/-! A product of polynomials: bit 31 - i of b counts the i-th step of a. -/
def ev : Nat → B32 → B32 → B32
  | 0, _, _ => 0#32
  | n + 1, a, b => (if b.getLsbD 31 then a else 0#32) ^^^ ev n (st a) (b <<< 1)
def mul (a b : B32) : B32 := ev 32 a b
def one : B32 := 0x80000000#32

theorem ev_next (m p x y : B32) (g : Nat) (h : g ≤ 32 ∧ m = p ^^^ ev g x y ∧ (g = 0 → y = 0#32)) (hy : y ≠ 0#32) :
    ∃ k, g = k + 1 ∧ k < 32 ∧ m = (if y.getLsbD 31 then p ^^^ x else p) ^^^ ev k (st x) (y <<< 1) := by
  obtain ⟨h1, h2, h3⟩ := h
  cases g with
  | zero => exact absurd (h3 rfl) hy
  | succ k =>
    refine ⟨k, rfl, by omega, ?_⟩
    rw [h2]
    conv => lhs; unfold ev
    rw [← BitVec.xor_assoc]
    congr 1
    cases y.getLsbD 31 <;> simp
theorem ev_xor_right (n : Nat) : ∀ a b c : B32, ev n a (b ^^^ c) = ev n a b ^^^ ev n a c := by
  induction n with
  | zero => intro a b c; simp [ev]
  | succ n ih =>
    intro a b c
    unfold ev
    rw [BitVec.shiftLeft_xor_distrib, ih, BitVec.getLsbD_xor, xor_comm4]
    congr 1
    cases b.getLsbD 31 <;> cases c.getLsbD 31 <;> simp
theorem ev_zero_right (n : Nat) : ∀ a : B32, ev n a 0#32 = 0#32 := by
  induction n with
  | zero => intro a; rfl
  | succ n ih => intro a; unfold ev; rw [show (0#32 <<< 1) = 0#32 from by decide, ih]; simp
theorem ev_st (n : Nat) : ∀ a b : B32, ev n (st a) b = st (ev n a b) := by
  induction n with
  | zero => intro a b; exact st_zero.symm
  | succ n ih =>
    intro a b
    unfold ev
    rw [ih, st_xor]
    congr 1
    cases b.getLsbD 31 <;> simp [st_zero]
theorem ev_xor_left (n : Nat) : ∀ a b c : B32, ev n (a ^^^ b) c = ev n a c ^^^ ev n b c := by
  induction n with
  | zero => intro a b c; simp [ev]
  | succ n ih =>
    intro a b c
    unfold ev
    rw [st_xor, ih, xor_comm4]
    congr 1
    cases c.getLsbD 31 <;> simp
theorem ev_zero_left (n : Nat) : ∀ b : B32, ev n 0#32 b = 0#32 := by
  induction n with
  | zero => intro b; rfl
  | succ n ih => intro b; unfold ev; rw [st_zero, ih]; simp
theorem mul_one (a : B32) : mul a one = a := by
  unfold mul
  show (if one.getLsbD 31 then a else 0#32) ^^^ ev 31 (st a) (one <<< 1) = a
  rw [show one.getLsbD 31 = true from by decide, show one <<< 1 = 0#32 from by decide, ev_zero_right]
  simp
/-- Every vector is its own product with the first power. -/
theorem basis : ∀ i : Nat, i < 32 → it (31 - i) one = BitVec.twoPow 32 i := by decide +kernel
/-- What holds of the powers of x, and of sums, holds of every vector. -/
theorem span (p : B32 → Prop) (h0 : p 0#32) (hx : ∀ a b, p a → p b → p (a ^^^ b)) (hb : ∀ i, p (it i one)) (a : B32) : p a := by
  have key : ∀ n, n ≤ 32 → ∀ a : B32, (∀ i, n ≤ i → a.getLsbD i = false) → p a := by
    intro n
    induction n with
    | zero =>
      intro _ a h
      have : a = 0#32 := BitVec.eq_of_getLsbD_eq (fun i _ => by rw [h i (Nat.zero_le _)]; simp)
      rw [this]; exact h0
    | succ n ih =>
      intro hn a h
      cases hc : a.getLsbD n with
      | false =>
        refine ih (by omega) a (fun i hi => ?_)
        by_cases e : i = n
        · rw [e]; exact hc
        · exact h i (by omega)
      | true =>
        have e : a = (a ^^^ BitVec.twoPow 32 n) ^^^ BitVec.twoPow 32 n := by rw [BitVec.xor_assoc, BitVec.xor_self, BitVec.xor_zero]
        rw [e]
        refine hx _ _ (ih (by omega) _ (fun i hi => ?_)) (by rw [← basis n (by omega)]; exact hb _)
        rw [BitVec.getLsbD_xor, BitVec.getLsbD_twoPow]
        by_cases e : i = n
        · subst e; rw [hc]; simp; omega
        · rw [h i (by omega)]; simp; omega
  exact key 32 (Nat.le_refl _) a (fun i hi => BitVec.getLsbD_of_ge _ _ hi)
theorem ev_it (n m : Nat) : ∀ a b : B32, ev n (it m a) b = it m (ev n a b) := by
  induction m with
  | zero => intro a b; rfl
  | succ m ih => intro a b; unfold it; rw [ih, ev_st]
theorem ones_basis : ∀ i : Nat, i < 32 → mul one (BitVec.twoPow 32 i) = BitVec.twoPow 32 i := by decide +kernel
theorem one_mul (b : B32) : mul one b = b := by
  have key : ∀ n, n ≤ 32 → ∀ a : B32, (∀ i, n ≤ i → a.getLsbD i = false) → mul one a = a := by
    intro n
    induction n with
    | zero =>
      intro _ a h
      have : a = 0#32 := BitVec.eq_of_getLsbD_eq (fun i _ => by rw [h i (Nat.zero_le _)]; simp)
      rw [this]; exact ev_zero_right _ _
    | succ n ih =>
      intro hn a h
      cases hc : a.getLsbD n with
      | false =>
        refine ih (by omega) a (fun i hi => ?_)
        by_cases e : i = n
        · rw [e]; exact hc
        · exact h i (by omega)
      | true =>
        have e : a = (a ^^^ BitVec.twoPow 32 n) ^^^ BitVec.twoPow 32 n := by rw [BitVec.xor_assoc, BitVec.xor_self, BitVec.xor_zero]
        have h1 : mul one (a ^^^ BitVec.twoPow 32 n) = a ^^^ BitVec.twoPow 32 n := by
          refine ih (by omega) _ (fun i hi => ?_)
          rw [BitVec.getLsbD_xor, BitVec.getLsbD_twoPow]
          by_cases e : i = n
          · subst e; rw [hc]; simp; omega
          · rw [h i (by omega)]; simp; omega
        have h2 : mul one ((a ^^^ BitVec.twoPow 32 n) ^^^ BitVec.twoPow 32 n) = (a ^^^ BitVec.twoPow 32 n) ^^^ BitVec.twoPow 32 n := by
          unfold mul; rw [ev_xor_right]
          have h3 := ones_basis n (by omega)
          unfold mul at h1 h3
          rw [h1, h3]
        rw [← e] at h2; exact h2
  exact key 32 (Nat.le_refl _) b (fun i hi => BitVec.getLsbD_of_ge _ _ hi)
theorem mul_st (a b : B32) : mul a (st b) = st (mul a b) := by
  refine span (fun a => mul a (st b) = st (mul a b)) ?_ ?_ ?_ a
  · unfold mul; rw [ev_zero_left, ev_zero_left]; exact st_zero.symm
  · intro a c ha hc
    unfold mul at *
    rw [ev_xor_left, ev_xor_left, st_xor, ha, hc]
  · intro i
    have h1 := one_mul (st b)
    have h2 := one_mul b
    unfold mul at *
    rw [ev_it, ev_it, h1, h2]
    exact it_comm i 1 b
/-- A product with the m-th power is m steps. -/
theorem mul_it (m : Nat) (a : B32) : mul a (it m one) = it m a := by
  induction m with
  | zero => exact mul_one a
  | succ m ih => rw [it_succ, it_succ, mul_st, ih]
theorem it_mul (j k : Nat) : mul (it j one) (it k one) = it (j + k) one := by rw [mul_it, it_add]
theorem odd_step (m n8 : Nat) (p q : B32) (hm : m % 2 = 1) (h : ∃ j k : Nat, p = it j one ∧ q = it k one ∧ j + k * m = n8) :
    ∃ j k : Nat, mul p q = it j one ∧ mul q q = it k one ∧ j + k * (m / 2) = n8 := by
  obtain ⟨j, k, rfl, rfl, e⟩ := h
  refine ⟨j + k, k + k, it_mul j k, it_mul k k, ?_⟩
  have e2 : m = 2 * (m / 2) + 1 := by omega
  rw [← e]
  conv => rhs; rw [e2]
  rw [Nat.mul_add, Nat.add_mul, Nat.mul_left_comm, Nat.mul_one, Nat.two_mul]
  omega
theorem even_step (m n8 : Nat) (p q : B32) (hm : ¬ m % 2 = 1) (h : ∃ j k : Nat, p = it j one ∧ q = it k one ∧ j + k * m = n8) :
    ∃ j k : Nat, p = it j one ∧ mul q q = it k one ∧ j + k * (m / 2) = n8 := by
  obtain ⟨j, k, rfl, rfl, e⟩ := h
  refine ⟨j, k + k, rfl, it_mul k k, ?_⟩
  have e2 : m = 2 * (m / 2) := by omega
  rw [← e]
  conv => rhs; rw [e2]
  rw [Nat.add_mul, Nat.mul_left_comm, Nat.two_mul]
theorem shift_start : it 8 one = 8388608#32 := by decide +kernel

/-! Four neighbouring bytes. -/
theorem byte_bit (x i : Nat) (hx : x < 256) (hi : 8 ≤ i) : (byte x).getLsbD i = false := by
  unfold byte
  rw [BitVec.getLsbD_ofNat]
  have : x.testBit i = false := Nat.testBit_lt_two_pow (Nat.lt_of_lt_of_le hx (by
    have : 2 ^ 8 ≤ 2 ^ i := Nat.pow_le_pow_right (by omega) hi
    simpa using this))
  rw [this]; simp
theorem byte_xor (x y : Nat) : byte (x ^^^ y) = byte x ^^^ byte y := by
  unfold byte; apply BitVec.eq_of_getLsbD_eq; intro i hi
  rw [BitVec.getLsbD_xor, BitVec.getLsbD_ofNat, BitVec.getLsbD_ofNat, BitVec.getLsbD_ofNat, Nat.testBit_xor]; simp [hi]
theorem byte_st (x k : Nat) (hk : k ≤ 16) (hx : x < 256) : it 8 (byte x <<< (k + 8)) = byte x <<< k := by
  rw [it_shr 8 _ (by intro i hi; rw [BitVec.getLsbD_shiftLeft]; simp; omega)]
  apply BitVec.eq_of_getLsbD_eq
  intro i hi
  rw [BitVec.getLsbD_ushiftRight, BitVec.getLsbD_shiftLeft, BitVec.getLsbD_shiftLeft]
  by_cases h : i < k
  · simp [h]; omega
  · rw [show 8 + i - (k + 8) = i - k by omega]
    by_cases h2 : 8 + i < 32
    · have h4 : k + 8 ≤ 8 + i := by omega
      simp [h, h2, hi, h4]
    · rw [byte_bit x (i - k) hx (by omega)]; simp
theorem eq_of_st (a b : B32) (h : it 8 a = it 8 b) : a = b := by
  have h1 : it 8 (a ^^^ b) = 0#32 := by rw [it_xor, h, BitVec.xor_self]
  have h2 := it_inj0 8 _ h1
  exact BitVec.xor_eq_zero_iff.1 h2
/-- Four bytes that leave the state as it would be without them are all 0. -/
theorem four (x0 x1 x2 x3 : Nat) (h0 : x0 < 256) (h1 : x1 < 256) (h2 : x2 < 256) (h3 : x3 < 256)
    (h : push (push (push (push 0#32 x0) x1) x2) x3 = 0#32) : x0 = 0 ∧ x1 = 0 ∧ x2 = 0 ∧ x3 = 0 := by
  have e3 := it_inj0 8 _ h
  have e3' : push (push (push 0#32 x0) x1) x2 = byte x3 := BitVec.xor_eq_zero_iff.1 e3
  have b3 : byte x3 = it 8 (byte x3 <<< (0 + 8)) := by rw [byte_st x3 0 (by omega) h3]; simp
  rw [b3] at e3'
  have e2 := eq_of_st _ _ e3'
  have e2' : push (push 0#32 x0) x1 = byte x2 ^^^ byte x3 <<< (0 + 8) := by
    have := congrArg (fun z => z ^^^ byte x2) e2
    simp only [BitVec.xor_assoc, BitVec.xor_self, BitVec.xor_zero] at this
    rw [this, BitVec.xor_comm]
  have b2 : byte x2 ^^^ byte x3 <<< (0 + 8) = it 8 (byte x2 <<< (0 + 8) ^^^ byte x3 <<< (0 + 8 + 8)) := by
    rw [it_xor, byte_st x2 0 (by omega) h2, byte_st x3 (0 + 8) (by omega) h3]; simp
  rw [b2] at e2'
  have e1 := eq_of_st _ _ e2'
  have e1' : push 0#32 x0 = byte x1 ^^^ (byte x2 <<< (0 + 8) ^^^ byte x3 <<< (0 + 8 + 8)) := by
    have := congrArg (fun z => z ^^^ byte x1) e1
    simp only [BitVec.xor_assoc, BitVec.xor_self, BitVec.xor_zero] at this
    rw [this, ← BitVec.xor_assoc, BitVec.xor_comm]
  have b1 : byte x1 ^^^ (byte x2 <<< (0 + 8) ^^^ byte x3 <<< (0 + 8 + 8)) = it 8 (byte x1 <<< (0 + 8) ^^^ (byte x2 <<< (0 + 8 + 8) ^^^ byte x3 <<< (0 + 8 + 8 + 8))) := by
    rw [it_xor, it_xor, byte_st x1 0 (by omega) h1, byte_st x2 (0 + 8) (by omega) h2, byte_st x3 (0 + 8 + 8) (by omega) h3]; simp
  rw [b1] at e1'
  have e0 := eq_of_st _ _ e1'
  rw [BitVec.zero_xor] at e0
  have bit : ∀ i, i < 32 → (byte x0).getLsbD i = (byte x1 <<< (0 + 8) ^^^ (byte x2 <<< (0 + 8 + 8) ^^^ byte x3 <<< (0 + 8 + 8 + 8))).getLsbD i := by intro i _; rw [e0]
  have lowb : ∀ x i, i < 8 → (byte x).getLsbD i = x.testBit i := by
    intro x i hi; unfold byte; rw [BitVec.getLsbD_ofNat]; simp; omega
  have zero_of : ∀ x, x < 256 → (∀ i, i < 8 → x.testBit i = false) → x = 0 := by
    intro x hx hb
    apply Nat.eq_of_testBit_eq
    intro i
    rw [Nat.zero_testBit]
    by_cases hi : i < 8
    · exact hb i hi
    · exact Nat.testBit_lt_two_pow (Nat.lt_of_lt_of_le hx (by
        have : 2 ^ 8 ≤ 2 ^ i := Nat.pow_le_pow_right (by omega) (by omega)
        simpa using this))
  refine ⟨zero_of x0 h0 (fun i hi => ?_), zero_of x1 h1 (fun i hi => ?_), zero_of x2 h2 (fun i hi => ?_), zero_of x3 h3 (fun i hi => ?_)⟩
  · have := bit i (by omega)
    rw [lowb x0 i hi] at this
    simp only [BitVec.getLsbD_xor, BitVec.getLsbD_shiftLeft] at this
    have g1 : i < 0 + 8 := by omega
    have g2 : i < 0 + 8 + 8 := by omega
    have g3 : i < 0 + 8 + 8 + 8 := by omega
    simp only [g1, g2, g3, decide_true, Bool.not_true, Bool.and_false, Bool.false_and, Bool.xor_false] at this
    exact this
  · have := bit (i + 8) (by omega)
    rw [byte_bit x0 _ h0 (by omega)] at this
    simp only [BitVec.getLsbD_xor, BitVec.getLsbD_shiftLeft] at this
    rw [show i + 8 - (0 + 8) = i by omega, lowb x1 i hi] at this
    have g1 : i + 8 < 16 := by omega
    have g2 : i + 8 < 24 := by omega
    have g3 : i + 8 < 32 := by omega
    simp [g1, g2, g3] at this
    exact this
  · have := bit (i + 16) (by omega)
    rw [byte_bit x0 _ h0 (by omega)] at this
    simp only [BitVec.getLsbD_xor, BitVec.getLsbD_shiftLeft] at this
    rw [byte_bit x1 (i + 16 - (0 + 8)) h1 (by omega), show i + 16 - (0 + 8 + 8) = i by omega, lowb x2 i hi] at this
    have g2 : i + 16 < 24 := by omega
    have g3 : i + 16 < 32 := by omega
    simp [g2, g3] at this
    exact this
  · have := bit (i + 24) (by omega)
    rw [byte_bit x0 _ h0 (by omega)] at this
    simp only [BitVec.getLsbD_xor, BitVec.getLsbD_shiftLeft] at this
    rw [byte_bit x1 (i + 24 - (0 + 8)) h1 (by omega), byte_bit x2 (i + 24 - (0 + 8 + 8)) h2 (by omega), show i + 24 - (0 + 8 + 8 + 8) = i by omega, lowb x3 i hi] at this
    have g3 : i + 24 < 32 := by omega
    simp [g3] at this
    exact this
/-- Bytes in a message change its end as the differences by themselves would. -/
theorem push_xor (c d : B32) (x y : Nat) : push (c ^^^ d) (x ^^^ y) = push c x ^^^ push d y := by
  unfold push
  rw [byte_xor, xor_comm4, it_xor]
theorem fold_inj (l : List Nat) (c d : B32) (h : fold c l = fold d l) : c = d := by
  have h1 := fold_lin l (c ^^^ d) d
  rw [BitVec.xor_assoc, BitVec.xor_self, BitVec.xor_zero, h] at h1
  have h2 : it (8 * l.length) (c ^^^ d) = 0#32 := by
    have := congrArg (fun z => z ^^^ fold d l) h1
    simp only [BitVec.xor_assoc, BitVec.xor_self, BitVec.xor_zero] at this
    exact this.symm
  exact BitVec.xor_eq_zero_iff.1 (it_inj0 _ _ h2)
/-- Two messages that part in four neighbouring bytes alone have different checksums. -/
theorem burst (c : B32) (p q : List Nat) (a0 a1 a2 a3 x0 x1 x2 x3 : Nat) (h0 : x0 < 256) (h1 : x1 < 256) (h2 : x2 < 256) (h3 : x3 < 256)
    (hne : ¬ (x0 = 0 ∧ x1 = 0 ∧ x2 = 0 ∧ x3 = 0)) :
    upd c (p ++ ([a0, a1, a2, a3] ++ q)) ≠ upd c (p ++ ([a0 ^^^ x0, a1 ^^^ x1, a2 ^^^ x2, a3 ^^^ x3] ++ q)) := by
  intro h
  unfold upd at h
  have h' := congrArg (fun z => ~~~ z) h
  simp only [BitVec.not_not, fold_append] at h'
  generalize fold (~~~ c) p = s at h'
  have e := fold_inj q _ _ h'
  simp only [fold_cons, fold_nil] at e
  have k : push (push (push (push s (a0 ^^^ x0)) (a1 ^^^ x1)) (a2 ^^^ x2)) (a3 ^^^ x3) = push (push (push (push s a0) a1) a2) a3 ^^^ push (push (push (push 0#32 x0) x1) x2) x3 := by
    rw [← push_xor, ← push_xor, ← push_xor, ← push_xor, BitVec.xor_zero]
  rw [k] at e
  refine hne (four x0 x1 x2 x3 h0 h1 h2 h3 ?_)
  have := congrArg (fun z => push (push (push (push s a0) a1) a2) a3 ^^^ z) e
  simp only [← BitVec.xor_assoc, BitVec.xor_self, BitVec.zero_xor] at this
  exact this.symm

/-! A message of which some neighbouring bytes are changed, one after the other. -/
def md (k : List Nat) (p : Nat) (xs : List Nat) : Nat → List Nat
  | 0 => k
  | j + 1 => (md k p xs j).set (p + j) ((md k p xs j).getD (p + j) 0 ^^^ xs.getD j 0)
theorem md_length (k : List Nat) (p : Nat) (xs : List Nat) (j : Nat) : (md k p xs j).length = k.length := by
  induction j with
  | zero => rfl
  | succ j ih => unfold md; rw [List.length_set, ih]
theorem md_lt (k : List Nat) (p : Nat) (xs : List Nat) (hk : ∀ x ∈ k, x < 256) (hx : ∀ j, xs.getD j 0 < 256) (j : Nat) : ∀ x ∈ md k p xs j, x < 256 := by
  induction j with
  | zero => exact hk
  | succ j ih =>
    intro x h
    unfold md at h
    rcases List.mem_or_eq_of_mem_set h with h | rfl
    · exact ih x h
    · refine Nat.xor_lt_two_pow (n := 8) ?_ (hx j)
      rw [List.getD_eq_getElem?_getD]
      cases hg : (md k p xs j)[p + j]? with
      | none => decide
      | some y => exact ih y (List.mem_of_getElem? hg)
theorem md_four (pre q : List Nat) (a0 a1 a2 a3 x0 x1 x2 x3 : Nat) :
    md (pre ++ ([a0, a1, a2, a3] ++ q)) pre.length [x0, x1, x2, x3] 4 = pre ++ ([a0 ^^^ x0, a1 ^^^ x1, a2 ^^^ x2, a3 ^^^ x3] ++ q) := by
  have g : ∀ (l : List Nat) (j : Nat), (pre ++ l).getD (pre.length + j) 0 = l.getD j 0 := by
    intro l j
    rw [List.getD_eq_getElem?_getD, List.getElem?_append_right (by omega), List.getD_eq_getElem?_getD, show pre.length + j - pre.length = j by omega]
  have s : ∀ (l : List Nat) (j v : Nat), (pre ++ l).set (pre.length + j) v = pre ++ l.set j v := by
    intro l j v
    rw [List.set_append_right _ _ (by omega), show pre.length + j - pre.length = j by omega]
  simp only [md, g, s, List.cons_append, List.nil_append]
  rfl
theorem split_four (k : List Nat) (p : Nat) (h : p + 4 ≤ k.length) : ∃ pre a0 a1 a2 a3 q, pre.length = p ∧ k = pre ++ ([a0, a1, a2, a3] ++ q) := by
  refine ⟨k.take p, ?_⟩
  have e := (List.take_append_drop p k).symm
  have hl : (k.take p).length = p := by rw [List.length_take]; omega
  have hd : (k.drop p).length = k.length - p := List.length_drop ..
  match hm : k.drop p, hd with
  | a0 :: a1 :: a2 :: a3 :: q, _ => exact ⟨a0, a1, a2, a3, q, hl, by rw [hm] at e; exact e⟩
  | [], hd => simp at hd; omega
  | [_], hd => simp at hd; omega
  | [_, _], hd => simp at hd; omega
  | [_, _, _], hd => simp at hd; omega
/-- A message and its copy with four neighbouring bytes changed: different checksums. -/
theorem burst_md (c : B32) (k : List Nat) (p x0 x1 x2 x3 : Nat) (h : p + 4 ≤ k.length) (h0 : x0 < 256) (h1 : x1 < 256) (h2 : x2 < 256) (h3 : x3 < 256)
    (hne : ¬ (x0 = 0 ∧ x1 = 0 ∧ x2 = 0 ∧ x3 = 0)) : upd c k ≠ upd c (md k p [x0, x1, x2, x3] 4) := by
  obtain ⟨pre, a0, a1, a2, a3, q, rfl, rfl⟩ := split_four k p h
  rw [md_four]
  exact burst c pre q a0 a1 a2 a3 x0 x1 x2 x3 h0 h1 h2 h3 hne
end Go.Proofs.YtjfgnojmdbfnmaaDoor.Crc
