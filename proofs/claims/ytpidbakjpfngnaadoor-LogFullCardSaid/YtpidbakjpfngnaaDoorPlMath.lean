/-
  Plain mathematics of plan records: when one is valid, its bytes, what is read back. Nothing of the program.
-/
import Derived.Test.YtpidbakjpfngnaaDoorSbOne
namespace Go.Proofs.YtpidbakjpfngnaaDoor
namespace Pl
open Wire
/-- A plan record. -/
structure P where
  kind : Int
  mig : Int
  idx : Int
  tail : Int
  t : Sb.L
/-- Is the record valid? -/
def valid (p : P) : Prop := (1 ≤ p.mig ∧ p.mig ≤ 4294967295) ∧ (0 ≤ p.tail ∧ p.tail ≤ 281474976710655) ∧ Sb.form p.t ∧ ((p.kind = 1 ∧ p.idx = 0) ∨ (p.kind = 2 ∧ 1 ≤ p.idx ∧ p.idx ≤ 35))
instance (p : P) : Decidable (valid p) := by unfold valid; infer_instance
def body (p : P) : List Nat := be 1 p.kind.toNat ++ (be 4 p.mig.toNat ++ (be 1 p.idx.toNat ++ (be 6 p.tail.toNat ++ Sb.lay p.t)))
theorem body_length (p : P) : (body p).length = 19 := by simp [body, be_length, Sb.lay_length]
theorem body_lt (p : P) : ∀ x ∈ body p, x < 256 := by
  intro x hx
  unfold body at hx
  rcases List.mem_append.1 hx with h | hx
  · exact be_lt _ _ x h
  rcases List.mem_append.1 hx with h | hx
  · exact be_lt _ _ x h
  rcases List.mem_append.1 hx with h | hx
  · exact be_lt _ _ x h
  rcases List.mem_append.1 hx with h | hx
  · exact be_lt _ _ x h
  exact Sb.lay_lt _ x hx
/-- The bytes of a record's sector. -/
def enc (x : Int) (p : P) : List Nat := Fr.enc 4 0 x (body p)
theorem enc_length (x : Int) (p : P) : (enc x p).length = 64 := Fr.enc_length _ _ _ _ (by rw [body_length]; decide)
theorem enc_lt (x : Int) (p : P) : ∀ y ∈ enc x p, y < 256 := Fr.enc_lt _ _ _ _ (by decide) (body_lt p)
/-- What is read at the beginning of a payload, by a reader R of layouts. -/
def rd (R : List Nat → Sb.L) (l : List Nat) : P := ⟨num (l.take 1), num ((l.drop 1).take 4), num ((l.drop 5).take 1), num ((l.drop 6).take 6), R (l.drop 12)⟩
/-- A reader that reads what was written. -/
def Reads (R : List Nat → Sb.L) : Prop := ∀ l q, Sb.form l → R (Sb.lay l ++ q) = l
theorem rd_body {R : List Nat → Sb.L} (hR : Reads R) (p : P) (q : List Nat) (hv : valid p) : rd R (body p ++ q) = p := by
  obtain ⟨h1, h2, h3, h4⟩ := hv
  have e : body p ++ q = be 1 p.kind.toNat ++ (be 4 p.mig.toNat ++ (be 1 p.idx.toNat ++ (be 6 p.tail.toNat ++ (Sb.lay p.t ++ q)))) := by simp [body]
  have p1 : (256 : Nat) ^ 1 = 256 := rfl
  have p4 : (256 : Nat) ^ 4 = 4294967296 := rfl
  have p6 : (256 : Nat) ^ 6 = 281474976710656 := rfl
  have a0 : (body p ++ q).take 1 = be 1 p.kind.toNat := by rw [e]; exact Sb.tk 1 _ _
  have a1 : ((body p ++ q).drop 1).take 4 = be 4 p.mig.toNat := by rw [e, Sb.dp 0 1, List.drop_zero]; exact Sb.tk 4 _ _
  have a2 : ((body p ++ q).drop 5).take 1 = be 1 p.idx.toNat := by rw [e, Sb.dp 4 1, Sb.dp 0 4, List.drop_zero]; exact Sb.tk 1 _ _
  have a3 : ((body p ++ q).drop 6).take 6 = be 6 p.tail.toNat := by rw [e, Sb.dp 5 1, Sb.dp 1 4, Sb.dp 0 1, List.drop_zero]; exact Sb.tk 6 _ _
  have a4 : (body p ++ q).drop 12 = Sb.lay p.t ++ q := by rw [e, Sb.dp 11 1, Sb.dp 7 4, Sb.dp 6 1, Sb.dp 0 6, List.drop_zero]
  unfold rd
  rw [a0, a1, a2, a3, a4, hR _ _ h3, num_be, num_be, num_be, num_be, p1, p4, p6]
  obtain ⟨k, m, i, t, l⟩ := p
  simp only at h1 h2 h4 ⊢
  congr 1 <;> omega
/-- Is b the sector of the valid record p? -/
def good (x : Int) (b : List Nat) (p : P) : Prop := Fr.may 4 0 x ∧ valid p ∧ enc x p = b
theorem sub_enc (x : Int) (p : P) : Rc.sub (enc x p) 1 59 = body p ++ List.replicate 40 0 := by
  unfold enc
  rw [Fr.sub_enc _ _ _ _ (by rw [body_length]; decide), body_length]
theorem rd_enc {R : List Nat → Sb.L} (hR : Reads R) (x : Int) (p : P) (hv : valid p) : rd R (Rc.sub (enc x p) 1 59) = p := by rw [sub_enc, rd_body hR p _ hv]
theorem good_fr {x : Int} {b : List Nat} {p : P} (h : good x b p) : Fr.good 4 0 x b := by
  obtain ⟨hm, hv, rfl⟩ := h
  exact Fr.round 4 0 x (body p) hm (by rw [body_length]; decide)
theorem good_rd {R : List Nat → Sb.L} (hR : Reads R) {x : Int} {b : List Nat} {p : P} (h : good x b p) : rd R (Rc.sub b 1 59) = p := by
  obtain ⟨hm, hv, rfl⟩ := h
  exact rd_enc hR x p hv
/-- What the definition's decoder finds: it reads, and looks whether the bytes are those of what it read. -/
theorem good_iff {R : List Nat → Sb.L} (hR : Reads R) (x : Int) (b : List Nat) :
    (∃ p, good x b p) ↔ Fr.good 4 0 x b ∧ valid (rd R (Rc.sub b 1 59)) ∧ enc x (rd R (Rc.sub b 1 59)) = b := by
  constructor
  · rintro ⟨p, h⟩
    rw [good_rd hR h]
    exact ⟨good_fr h, h.2.1, h.2.2⟩
  · rintro ⟨h1, h2, h3⟩
    exact ⟨_, h1.1, h2, h3⟩
/-- Are the bytes behind the record's numbers all zero? -/
def rest0 (l : List Nat) : Bool := (l.drop 19).all (· == 0)
theorem rest0_iff (l : List Nat) : rest0 l = true ↔ l.drop 19 = List.replicate (l.length - 19) 0 := by
  unfold rest0
  rw [List.all_eq_true, List.eq_replicate_iff, List.length_drop]
  constructor
  · intro h
    exact ⟨rfl, fun x hx => by simpa using h x hx⟩
  · rintro ⟨-, h⟩ x hx
    simpa using h x hx
/-- A reader of which the bytes of what it read are those that it read. -/
def Backs (R : List Nat → Sb.L) : Prop := ∀ l, 7 ≤ l.length → (∀ x ∈ l, x < 256) → Sb.form (R l) → Sb.lay (R l) = l.take 7
theorem body_rd {R : List Nat → Sb.L} (hR : Backs R) (l : List Nat) (hl : 19 ≤ l.length) (hp : ∀ x ∈ l, x < 256) (hf : Sb.form (R (l.drop 12))) : body (rd R l) = l.take 19 := by
  have one : ∀ (i k : Nat), i + k ≤ 19 → be k (num ((l.drop i).take k)) = (l.drop i).take k := fun i k h => by
    have hk : ((l.drop i).take k).length = k := by rw [List.length_take, List.length_drop]; omega
    have := be_num ((l.drop i).take k) (fun x hx => hp x (List.mem_of_mem_drop (List.mem_of_mem_take hx)))
    rwa [hk] at this
  have j : ∀ (i k : Nat), l.take i ++ (l.drop i).take k = l.take (i + k) := fun i k => (List.take_add ..).symm
  have b0 := one 0 1 (by decide)
  rw [List.drop_zero] at b0
  have hb := hR (l.drop 12) (by rw [List.length_drop]; omega) (fun x hx => hp x (List.mem_of_mem_drop hx)) hf
  show be 1 (num (l.take 1) : Int).toNat ++ (be 4 (num ((l.drop 1).take 4) : Int).toNat ++ (be 1 (num ((l.drop 5).take 1) : Int).toNat ++ (be 6 (num ((l.drop 6).take 6) : Int).toNat ++ Sb.lay (R (l.drop 12))))) = _
  simp only [Int.toNat_natCast]
  rw [b0, one 1 4 (by decide), one 5 1 (by decide), one 6 6 (by decide), hb, ← List.append_assoc, j 1 4, ← List.append_assoc, j 5 1, ← List.append_assoc, j 6 6, j 12 7]
theorem fill_eq {p q : List Nat} (h : Fr.body 4 p = Fr.body 4 q) : p ++ List.replicate (59 - p.length) 0 = q ++ List.replicate (59 - q.length) 0 := by
  unfold Fr.body at h
  injection h
/-- What the program's decoder finds: it reads, and looks whether zeros follow. -/
theorem again {R : List Nat → Sb.L} (hR : Backs R) (x : Int) (b : List Nat) (hb : ∀ y ∈ b, y < 256) (hg : Fr.good 4 0 x b) (hv : valid (rd R (Rc.sub b 1 59))) : enc x (rd R (Rc.sub b 1 59)) = b ↔ rest0 (Rc.sub b 1 59) = true := by
  obtain ⟨hm, hl, he⟩ := hg
  have hs := Fr.sub59 b hl
  have hlt : ∀ y ∈ Rc.sub b 1 59, y < 256 := fun y hy => hb y (List.mem_of_mem_drop (List.mem_of_mem_take hy))
  generalize Rc.sub b 1 59 = p at *
  have hbd := body_rd hR p (by omega) hlt hv.2.2.1
  have hln : (p.take 19).length = 19 := by rw [List.length_take]; omega
  rw [rest0_iff, hs]
  unfold enc
  rw [hbd]
  constructor
  · intro h
    have h1 := fill_eq (Fr.enc_parts (by rw [hln]; decide) (by omega) (h.trans he.symm)).1
    rw [hs, hln, Nat.sub_self, List.replicate_zero, List.append_nil] at h1
    have h2 := congrArg (List.drop 19) h1
    rw [List.drop_left' hln] at h2
    exact h2.symm
  · intro h
    rw [← Fr.enc_fill 4 0 x (p.take 19) (by rw [hln]; decide), hln, ← h, List.take_append_drop, he]
theorem good_iff0 {R : List Nat → Sb.L} (hR : Reads R) (hB : Backs R) (x : Int) (b : List Nat) (hb : ∀ y ∈ b, y < 256) :
    (∃ p, good x b p) ↔ Fr.good 4 0 x b ∧ rest0 (Rc.sub b 1 59) = true ∧ valid (rd R (Rc.sub b 1 59)) := by
  rw [good_iff hR]
  constructor
  · rintro ⟨h1, h2, h3⟩
    exact ⟨h1, (again hB x b hb h1 h2).1 h3, h2⟩
  · rintro ⟨h1, h2, h3⟩
    exact ⟨h1, h3, (again hB x b hb h1 h3).2 h2⟩
/-- The program's reader of layouts. -/
def rl (l : List Nat) : Sb.L := ⟨num (l.take 4), num ((l.drop 4).take 1), Sb.P (num ((l.drop 5).take 1)), num ((l.drop 6).take 1)⟩
theorem P_ex {n : Int} (h : Sb.pw n) : Sb.P (Sb.ex n) = n := by
  rcases h with rfl | rfl | rfl | rfl | rfl | rfl | rfl | rfl | rfl | rfl | rfl <;> decide
theorem ex_P_table : ((List.range 256).all fun k => ! decide (Sb.pw (Sb.P k)) || Sb.ex (Sb.P k) == k) = true := by decide +kernel
theorem ex_P (k : Nat) (hk : k < 256) (h : Sb.pw (Sb.P k)) : Sb.ex (Sb.P k) = k := by
  have h1 := List.all_eq_true.1 ex_P_table k (List.mem_range.2 hk)
  simpa [h] using h1
theorem rl_reads : Reads rl := by
  intro l q h
  obtain ⟨h0, h1, h2, h3⟩ := Sb.lay_parts l q (.inl h)
  obtain ⟨n0, n1, n2⟩ := Sb.form_nat (.inl h)
  unfold rl
  rw [h0, h1, h2, h3, P_ex h.2.2.1]
  obtain ⟨i, v, r, g⟩ := l
  simp only at n0 n1 n2 ⊢
  congr 1 <;> omega
theorem rl_backs : Backs rl := by
  intro l hl hp hf
  have one : ∀ (i k : Nat), i + k ≤ 7 → be k (num ((l.drop i).take k)) = (l.drop i).take k := fun i k h => by
    have hk : ((l.drop i).take k).length = k := by rw [List.length_take, List.length_drop]; omega
    have := be_num ((l.drop i).take k) (fun x hx => hp x (List.mem_of_mem_drop (List.mem_of_mem_take hx)))
    rwa [hk] at this
  have j : ∀ (i k : Nat), l.take i ++ (l.drop i).take k = l.take (i + k) := fun i k => (List.take_add ..).symm
  have b0 := one 0 4 (by decide)
  rw [List.drop_zero] at b0
  have hx := ex_P (num ((l.drop 5).take 1)) (num1 _ (fun x hx => hp x (List.mem_of_mem_drop hx))) hf.2.2.1
  show be 4 (num (l.take 4) : Int).toNat ++ (be 1 (num ((l.drop 4).take 1) : Int).toNat ++ (be 1 (Sb.ex (Sb.P (num ((l.drop 5).take 1)))) ++ be 1 (num ((l.drop 6).take 1) : Int).toNat)) = _
  simp only [Int.toNat_natCast]
  rw [hx, b0, one 4 1 (by decide), one 5 1 (by decide), one 6 1 (by decide), ← List.append_assoc, j 4 1, ← List.append_assoc, j 5 1, j 6 1]
/-- The definition's reader of layouts. -/
theorem rl2_reads : Reads Sb.rl2 := fun l q h => Sb.rl2_reads l q (.inl h)
theorem apart (x : Int) (a b : P) (ha : valid a) (hb : valid b) : enc x a = enc x b ↔ a = b := by
  constructor
  · intro h
    rw [← rd_enc rl_reads x a ha, h, rd_enc rl_reads x b hb]
  · rintro rfl; rfl
/-- The error of Encode. -/
def err (p : P) (x : Int) : Int := if valid p then (if 0 ≤ x ∧ x < 1048576 then 0 else 2) else 4
theorem err_fr (p : P) (x : Int) (hv : valid p) : err p x = if Fr.may 4 0 x then 0 else 2 := by
  unfold err
  rw [if_pos hv]
  by_cases hx : 0 ≤ x ∧ x < 1048576
  · rw [if_pos hx, if_pos (by unfold Fr.may; omega)]
  · rw [if_neg hx, if_neg (by unfold Fr.may; omega)]
/-- The same numbers? -/
def same (a b : P) : Bool := a.kind == b.kind && (a.mig == b.mig && (a.idx == b.idx && (a.tail == b.tail && Sb.sameL a.t b.t)))
theorem same_iff (a b : P) : same a b = true ↔ a = b := by
  obtain ⟨a0, a1, a2, a3, a4⟩ := a
  obtain ⟨b0, b1, b2, b3, b4⟩ := b
  unfold same
  simp only [Bool.and_eq_true, beq_iff_eq, P.mk.injEq, Sb.sameL_iff]
theorem same_self (a : P) : same a a = true := (same_iff a a).2 rfl
end Pl
namespace Mg
/-- May there be a migration that has to do with the layout? -/
def may (l : Sb.L) : Prop := Sb.form l ∧ l.id ≤ 4294967293
instance (l : Sb.L) : Decidable (may l) := by unfold may; infer_instance
/-- The target of a resize. -/
def tgt (l : Sb.L) (rs reg : Int) : Sb.L := ⟨l.id + 1, l.ver, rs, reg⟩
def fits (l : Sb.L) (sec rs reg : Int) : Prop := Sb.form (tgt l rs reg) ∧ 74 + reg * rs ≤ sec ∧ ¬ (rs = l.rs ∧ reg = l.reg)
instance (l : Sb.L) (sec rs reg : Int) : Decidable (fits l sec rs reg) := by unfold fits; infer_instance
/-- The answer: a layout and an error. -/
structure A where
  l : Sb.L
  e : Int
def resize (l : Sb.L) (sec rs reg : Int) : A := if may l then (if fits l sec rs reg then ⟨tgt l rs reg, 0⟩ else ⟨Sb.L0, 10⟩) else ⟨Sb.L0, 4⟩
def upgrade (l : Sb.L) : A := if may l then (if l.ver = 2 then ⟨Sb.L0, 10⟩ else ⟨⟨l.id + 1, 2, l.rs, l.reg⟩, 0⟩) else ⟨Sb.L0, 4⟩
def back (h t : Sb.L) : A := if may h ∧ may t then ⟨⟨t.id + 1, h.ver, h.rs, h.reg⟩, 0⟩ else ⟨Sb.L0, 4⟩
/-- What the law PlanTargets says. -/
theorem targets (l : Sb.L) (sec rs reg : Int) (h : (resize l sec rs reg).e = 0) : may l ∧ fits l sec rs reg ∧ (resize l sec rs reg).l = tgt l rs reg := by
  unfold resize at h ⊢
  by_cases h1 : may l
  · rw [if_pos h1] at h ⊢
    by_cases h2 : fits l sec rs reg
    · rw [if_pos h2]; exact ⟨h1, h2, rfl⟩
    · rw [if_neg h2] at h; exact absurd h (by decide)
  · rw [if_neg h1] at h; exact absurd h (by decide)
theorem not_zero (l : Sb.L) (sec rs reg : Int) (h : (resize l sec rs reg).e ≠ 0) : (resize l sec rs reg).l = Sb.L0 := by
  unfold resize at h ⊢
  by_cases h1 : may l
  · rw [if_pos h1] at h ⊢
    by_cases h2 : fits l sec rs reg
    · rw [if_pos h2] at h; exact absurd rfl h
    · rw [if_neg h2]
  · rw [if_neg h1]
end Mg
end Go.Proofs.YtpidbakjpfngnaaDoor
