/-
  Plain mathematics of region headers: when one is valid, its bytes, what is read back. Nothing of the program.
-/
import Derived.Test.YtjfgnojmdbfnmaaDoorFrMath
namespace Go.Proofs.YtjfgnojmdbfnmaaDoor
namespace Wire
theorem num_mod (k n m : Nat) : be k (n + m * 256 ^ k) = be k n := by
  induction k generalizing m with
  | zero => rfl
  | succ k ih =>
    have e : n + m * 256 ^ (k + 1) = n + (m * 256) * 256 ^ k := by rw [Nat.pow_succ, Nat.mul_comm (256 ^ k) 256, Nat.mul_assoc]
    rw [be_succ, be_succ, e, ih (m * 256), Nat.add_mul_div_right _ _ (Nat.pow_pos (by decide)), Nat.add_mul_mod_self_right]
theorem be_num (l : List Nat) (h : ∀ x ∈ l, x < 256) : be l.length (num l) = l := by
  induction l with
  | nil => rfl
  | cons x l ih =>
    have hl : ∀ y ∈ l, y < 256 := fun y hy => h y (List.mem_cons_of_mem _ hy)
    have hx := h x (List.mem_cons_self ..)
    have hn := num_lt l hl
    rw [List.length_cons, num_cons, be_succ, Nat.add_comm (x * _) (num l), num_mod, ih hl, Nat.add_mul_div_right _ _ (Nat.pow_pos (by decide)), Nat.div_eq_of_lt hn, Nat.zero_add, Nat.mod_eq_of_lt hx]
end Wire
namespace Hd
open Wire
structure H where
  ver : Int
  slot : Int
  lay : Int
  seq : Int
  tail : Int
  now : Int
def zero : H := ⟨0, 0, 0, 0, 0, 0⟩
/-- Is each number in its range? -/
def valid (h : H) : Prop := (h.ver = 1 ∨ h.ver = 2) ∧ (0 ≤ h.slot ∧ h.slot ≤ 15) ∧ (1 ≤ h.lay ∧ h.lay ≤ 4294967295) ∧ (1 ≤ h.seq ∧ h.seq ≤ 281474976710655) ∧ (0 ≤ h.tail ∧ h.tail ≤ h.seq) ∧ (0 ≤ h.now ∧ h.now ≤ 549755813888)
instance (h : H) : Decidable (valid h) := by unfold valid; infer_instance
def body (h : H) : List Nat := be 1 h.ver.toNat ++ (be 1 h.slot.toNat ++ (be 4 h.lay.toNat ++ (be 6 h.seq.toNat ++ (be 6 h.tail.toNat ++ be 5 h.now.toNat))))
theorem body_length (h : H) : (body h).length = 23 := by simp [body, be_length]
theorem body_lt (h : H) : ∀ x ∈ body h, x < 256 := by
  intro x hx
  unfold body at hx
  rcases List.mem_append.1 hx with h | hx
  · exact be_lt _ _ x h
  rcases List.mem_append.1 hx with h | hx
  · exact be_lt _ _ x h
  rcases List.mem_append.1 hx with h | hx
  · exact be_lt _ _ x h
  rcases List.mem_append.1 hx with h | hx
  · exact be_lt _ _ x h
  rcases List.mem_append.1 hx with h | hx
  · exact be_lt _ _ x h
  exact be_lt _ _ x hx
/-- The bytes of a header's sector. -/
def enc (x : Int) (h : H) : List Nat := Fr.enc 1 0 x (body h)
theorem enc_length (x : Int) (h : H) : (enc x h).length = 64 := Fr.enc_length _ _ _ _ (by rw [body_length]; decide)
theorem enc_lt (x : Int) (h : H) : ∀ y ∈ enc x h, y < 256 := Fr.enc_lt _ _ _ _ (by decide) (body_lt h)
/-- The header that is read at the beginning of a payload. -/
def rd (p : List Nat) : H := ⟨num (p.take 1), num ((p.drop 1).take 1), num ((p.drop 2).take 4), num ((p.drop 6).take 6), num ((p.drop 12).take 6), num ((p.drop 18).take 5)⟩
theorem rd_body (h : H) (q : List Nat) (hv : valid h) : rd (body h ++ q) = h := by
  obtain ⟨h1, h2, h3, h4, h5, h6⟩ := hv
  have e : body h ++ q = be 1 h.ver.toNat ++ (be 1 h.slot.toNat ++ (be 4 h.lay.toNat ++ (be 6 h.seq.toNat ++ (be 6 h.tail.toNat ++ (be 5 h.now.toNat ++ q))))) := by simp [body]
  have p1 : (256 : Nat) ^ 1 = 256 := rfl
  have p4 : (256 : Nat) ^ 4 = 4294967296 := rfl
  have p5 : (256 : Nat) ^ 5 = 1099511627776 := rfl
  have p6 : (256 : Nat) ^ 6 = 281474976710656 := rfl
  have tk : ∀ (k n : Nat) (r : List Nat), (be k n ++ r).take k = be k n := fun k n r => List.take_left' (be_length k n)
  have dp : ∀ (j k n : Nat) (r : List Nat), (be k n ++ r).drop (k + j) = r.drop j := fun j k n r => by
    rw [← List.drop_drop, List.drop_left' (be_length k n)]
  have a1 : (body h ++ q).take 1 = be 1 h.ver.toNat := by rw [e]; exact tk 1 _ _
  have a2 : ((body h ++ q).drop 1).take 1 = be 1 h.slot.toNat := by
    rw [e, dp 0 1, List.drop_zero]; exact tk 1 _ _
  have a3 : ((body h ++ q).drop 2).take 4 = be 4 h.lay.toNat := by
    rw [e, dp 1 1, dp 0 1, List.drop_zero]; exact tk 4 _ _
  have a4 : ((body h ++ q).drop 6).take 6 = be 6 h.seq.toNat := by
    rw [e, dp 5 1, dp 4 1, dp 0 4, List.drop_zero]; exact tk 6 _ _
  have a5 : ((body h ++ q).drop 12).take 6 = be 6 h.tail.toNat := by
    rw [e, dp 11 1, dp 10 1, dp 6 4, dp 0 6, List.drop_zero]; exact tk 6 _ _
  have a6 : ((body h ++ q).drop 18).take 5 = be 5 h.now.toNat := by
    rw [e, dp 17 1, dp 16 1, dp 12 4, dp 6 6, dp 0 6, List.drop_zero]; exact tk 5 _ _
  unfold rd
  rw [a1, a2, a3, a4, a5, a6, num_be, num_be, num_be, num_be, num_be, num_be, p1, p4, p5, p6]
  obtain ⟨v, s, l, q', t, n⟩ := h
  simp only at h1 h2 h3 h4 h5 h6 ⊢
  congr 1 <;> omega
theorem body_rd (p : List Nat) (hl : 23 ≤ p.length) (hp : ∀ x ∈ p, x < 256) : body (rd p) = p.take 23 := by
  have one : ∀ (i k : Nat), i + k ≤ 23 → be k (num ((p.drop i).take k)) = (p.drop i).take k := fun i k h => by
    have hk : ((p.drop i).take k).length = k := by rw [List.length_take, List.length_drop]; omega
    have := be_num ((p.drop i).take k) (fun x hx => hp x (List.mem_of_mem_drop (List.mem_of_mem_take hx)))
    rwa [hk] at this
  have j : ∀ (i k : Nat), p.take i ++ (p.drop i).take k = p.take (i + k) := fun i k => (List.take_add ..).symm
  have b0 := one 0 1 (by decide)
  rw [List.drop_zero] at b0
  show be 1 (num (p.take 1) : Int).toNat ++ (be 1 (num ((p.drop 1).take 1) : Int).toNat ++ (be 4 (num ((p.drop 2).take 4) : Int).toNat ++ (be 6 (num ((p.drop 6).take 6) : Int).toNat ++ (be 6 (num ((p.drop 12).take 6) : Int).toNat ++ be 5 (num ((p.drop 18).take 5) : Int).toNat)))) = _
  simp only [Int.toNat_natCast]
  rw [b0, one 1 1 (by decide), one 2 4 (by decide), one 6 6 (by decide), one 12 6 (by decide), one 18 5 (by decide), ← List.append_assoc, j 1 1, ← List.append_assoc, j 2 4, ← List.append_assoc, j 6 6, ← List.append_assoc, j 12 6, j 18 5]
/-- Are the bytes behind the header's numbers all zero? -/
def rest0 (p : List Nat) : Bool := (p.drop 23).all (· == 0)
theorem rest0_iff (p : List Nat) : rest0 p = true ↔ p.drop 23 = List.replicate (p.length - 23) 0 := by
  unfold rest0
  rw [List.all_eq_true, List.eq_replicate_iff, List.length_drop]
  constructor
  · intro h
    exact ⟨rfl, fun x hx => by simpa using h x hx⟩
  · rintro ⟨-, h⟩ x hx
    simpa using h x hx
/-- Is b the sector of a valid header? -/
def good (x : Int) (b : List Nat) : Prop := Fr.good 1 0 x b ∧ valid (rd (Rc.sub b 1 59)) ∧ rest0 (Rc.sub b 1 59) = true
theorem fill_eq {p q : List Nat} (h : Fr.body 1 p = Fr.body 1 q) : p ++ List.replicate (59 - p.length) 0 = q ++ List.replicate (59 - q.length) 0 := by
  unfold Fr.body at h
  injection h
/-- The other definition: the header that is read has these bytes. -/
theorem again (x : Int) (b : List Nat) (hb : ∀ y ∈ b, y < 256) (hg : Fr.good 1 0 x b) : enc x (rd (Rc.sub b 1 59)) = b ↔ rest0 (Rc.sub b 1 59) = true := by
  obtain ⟨hm, hl, he⟩ := hg
  have hs := Fr.sub59 b hl
  have hlt : ∀ y ∈ Rc.sub b 1 59, y < 256 := fun y hy => hb y (List.mem_of_mem_drop (List.mem_of_mem_take hy))
  generalize Rc.sub b 1 59 = p at *
  have hbd := body_rd p (by omega) hlt
  have hln : (p.take 23).length = 23 := by rw [List.length_take]; omega
  rw [rest0_iff, hs]
  unfold enc
  rw [hbd]
  constructor
  · intro h
    have h1 := fill_eq (Fr.enc_parts (by rw [hln]; decide) (by omega) (h.trans he.symm)).1
    rw [hs, hln, Nat.sub_self, List.replicate_zero, List.append_nil] at h1
    have h2 := congrArg (List.drop 23) h1
    rw [List.drop_left' hln] at h2
    exact h2.symm
  · intro h
    rw [← Fr.enc_fill 1 0 x (p.take 23) (by rw [hln]; decide), hln, ← h, List.take_append_drop, he]
theorem sub_enc (x : Int) (h : H) : Rc.sub (enc x h) 1 59 = body h ++ List.replicate 36 0 := by
  unfold enc
  rw [Fr.sub_enc _ _ _ _ (by rw [body_length]; decide), body_length]
theorem rd_enc (x : Int) (h : H) (hv : valid h) : rd (Rc.sub (enc x h) 1 59) = h := by rw [sub_enc, rd_body h _ hv]
theorem rest0_enc (x : Int) (h : H) : rest0 (Rc.sub (enc x h) 1 59) = true := by
  rw [rest0_iff, sub_enc, List.drop_left' (body_length h), List.length_append, body_length, List.length_replicate]
theorem good_enc (x y : Int) (h : H) (hv : valid h) (hm : Fr.may 1 0 x) : good y (enc x h) ↔ y = x := by
  constructor
  · intro hg
    exact (Fr.other_sector 1 0 x y (body h) hm (by rw [body_length]; decide)).1 hg.1
  · rintro rfl
    exact ⟨Fr.round 1 0 y (body h) hm (by rw [body_length]; decide), by rw [rd_enc y h hv]; exact hv, rest0_enc y h⟩
theorem apart (x : Int) (a b : H) (ha : valid a) (hb : valid b) : enc x a = enc x b ↔ a = b := by
  constructor
  · intro h
    rw [← rd_enc x a ha, h, rd_enc x b hb]
  · rintro rfl; rfl
/-- The error of Encode. -/
def err (h : H) (x : Int) : Int := if valid h then (if 0 ≤ x ∧ x < 1048576 then 0 else 2) else 4
theorem err_fr (h : H) (x : Int) (hv : valid h) : err h x = if Fr.may 1 0 x then 0 else 2 := by
  unfold err
  rw [if_pos hv]
  by_cases hx : 0 ≤ x ∧ x < 1048576
  · rw [if_pos hx, if_pos (by unfold Fr.may; omega)]
  · rw [if_neg hx, if_neg (by unfold Fr.may; omega)]
end Hd
end Go.Proofs.YtjfgnojmdbfnmaaDoor
