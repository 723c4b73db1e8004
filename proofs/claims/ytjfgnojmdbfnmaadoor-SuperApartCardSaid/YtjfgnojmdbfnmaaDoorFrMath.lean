/-
  Plain mathematics of frames: the bytes, what is read back, and what a change does to them. Nothing of the program.
-/
import Derived.Test.YtjfgnojmdbfnmaaDoorRecMath
namespace Go.Proofs.YtjfgnojmdbfnmaaDoor.Fr
open Wire
/-- Are there frames of this kind, for this salt and sector? -/
def may (kind salt sector : Int) : Prop := 1 ≤ kind ∧ kind ≤ 4 ∧ 0 ≤ salt ∧ 0 ≤ sector ∧ sector < 1048576
instance (kind salt sector : Int) : Decidable (may kind salt sector) := by unfold may; infer_instance
/-- What precedes the checksum. -/
def body (kind : Int) (p : List Nat) : List Nat := kind.toNat :: (p ++ List.replicate (59 - p.length) 0)
def sum (kind salt sector : Int) (p : List Nat) : Nat := Crc.U (Crc.upd 0#32 (Rc.spot salt sector ++ body kind p))
def enc (kind salt sector : Int) (p : List Nat) : List Nat := body kind p ++ be 4 (sum kind salt sector p)
/-- Is b a frame? -/
def good (kind salt sector : Int) (b : List Nat) : Prop := may kind salt sector ∧ b.length = 64 ∧ enc kind salt sector (Rc.sub b 1 59) = b
theorem body_length (kind : Int) (p : List Nat) (h : p.length ≤ 59) : (body kind p).length = 60 := by
  unfold body
  rw [List.length_cons, List.length_append, List.length_replicate]; omega
theorem enc_length (kind salt sector : Int) (p : List Nat) (h : p.length ≤ 59) : (enc kind salt sector p).length = 64 := by
  unfold enc
  rw [List.length_append, body_length _ _ h, be_length]
theorem body_lt (kind : Int) (p : List Nat) (hk : 1 ≤ kind ∧ kind ≤ 4) (hp : ∀ x ∈ p, x < 256) : ∀ x ∈ body kind p, x < 256 := by
  intro x hx
  unfold body at hx
  rcases List.mem_cons.1 hx with rfl | h
  · omega
  rcases List.mem_append.1 h with h | h
  · exact hp x h
  · rw [(List.mem_replicate.1 h).2]; decide
theorem enc_lt (kind salt sector : Int) (p : List Nat) (hk : 1 ≤ kind ∧ kind ≤ 4) (hp : ∀ x ∈ p, x < 256) : ∀ x ∈ enc kind salt sector p, x < 256 := by
  intro x hx
  unfold enc at hx
  rcases List.mem_append.1 hx with h | h
  · exact body_lt kind p hk hp x h
  · exact be_lt _ _ x h
theorem body_full (kind : Int) (p : List Nat) (h : p.length = 59) : body kind p = kind.toNat :: p := by
  unfold body
  rw [h]
  simp
theorem fill_length (p : List Nat) (h : p.length ≤ 59) : (p ++ List.replicate (59 - p.length) 0).length = 59 := by
  rw [List.length_append, List.length_replicate]; omega
theorem body_fill (kind : Int) (p : List Nat) (h : p.length ≤ 59) : body kind (p ++ List.replicate (59 - p.length) 0) = body kind p := by
  rw [body_full _ _ (fill_length p h)]; rfl
theorem enc_fill (kind salt sector : Int) (p : List Nat) (h : p.length ≤ 59) : enc kind salt sector (p ++ List.replicate (59 - p.length) 0) = enc kind salt sector p := by
  unfold enc sum
  rw [body_fill kind p h]
theorem sub_enc (kind salt sector : Int) (p : List Nat) (h : p.length ≤ 59) : Rc.sub (enc kind salt sector p) 1 59 = p ++ List.replicate (59 - p.length) 0 := by
  have hl := fill_length p h
  unfold enc body Rc.sub
  rw [List.cons_append, List.drop_succ_cons, List.drop_zero]
  exact List.take_left' hl
theorem sub59 (b : List Nat) (h : b.length = 64) : (Rc.sub b 1 59).length = 59 := Rc.sub_length b 1 59 (by omega)
/-- What was encoded is a frame. -/
theorem round (kind salt sector : Int) (p : List Nat) (hm : may kind salt sector) (h : p.length ≤ 59) : good kind salt sector (enc kind salt sector p) :=
  ⟨hm, enc_length _ _ _ _ h, by rw [sub_enc _ _ _ _ h, enc_fill _ _ _ _ h]⟩
theorem be_inj (n m : Nat) (hn : n < 4294967296) (hm : m < 4294967296) (h : be 4 n = be 4 m) : n = m := by
  have e := congrArg num h
  rw [num_be, num_be, show (256 : Nat) ^ 4 = 4294967296 from rfl] at e
  omega
theorem be8 (n : Nat) : be 8 n = be 4 (n / 4294967296) ++ be 4 n := by
  have e : ∀ k, n / 256 ^ (4 + k) % 256 = n / 4294967296 / 256 ^ k % 256 := fun k => by
    rw [Nat.div_div_eq_div_mul, Nat.pow_add]
  show [n / 256 ^ (4 + 3) % 256, n / 256 ^ (4 + 2) % 256, n / 256 ^ (4 + 1) % 256, n / 256 ^ (4 + 0) % 256, n / 256 ^ 3 % 256, n / 256 ^ 2 % 256, n / 256 ^ 1 % 256, n / 256 ^ 0 % 256] = [n / 4294967296 / 256 ^ 3 % 256, n / 4294967296 / 256 ^ 2 % 256, n / 4294967296 / 256 ^ 1 % 256, n / 4294967296 / 256 ^ 0 % 256] ++ [n / 256 ^ 3 % 256, n / 256 ^ 2 % 256, n / 256 ^ 1 % 256, n / 256 ^ 0 % 256]
  rw [e 3, e 2, e 1, e 0]; rfl
/-- Two messages that part in four neighbouring bytes at most, and have the same checksum, are the same. -/
theorem burst_eq (c : Crc.B32) (q a b : List Nat) (ha : a.length = 4) (hb : b.length = 4) (la : ∀ x ∈ a, x < 256) (lb : ∀ x ∈ b, x < 256) (h : Crc.upd c (a ++ q) = Crc.upd c (b ++ q)) : a = b := by
  match a, ha, b, hb with
  | [a0, a1, a2, a3], _, [b0, b1, b2, b3], _ =>
    have la0 := la a0 (by simp); have la1 := la a1 (by simp); have la2 := la a2 (by simp); have la3 := la a3 (by simp)
    have lb0 := lb b0 (by simp); have lb1 := lb b1 (by simp); have lb2 := lb b2 (by simp); have lb3 := lb b3 (by simp)
    have x0 := Nat.xor_lt_two_pow (n := 8) la0 lb0
    have x1 := Nat.xor_lt_two_pow (n := 8) la1 lb1
    have x2 := Nat.xor_lt_two_pow (n := 8) la2 lb2
    have x3 := Nat.xor_lt_two_pow (n := 8) la3 lb3
    have k : ∀ u v : Nat, u ^^^ (u ^^^ v) = v := fun u v => by rw [← Nat.xor_assoc, Nat.xor_self, Nat.zero_xor]
    have z : ∀ u v : Nat, u ^^^ v = 0 → u = v := fun u v e => by
      have := k u v
      rw [e, Nat.xor_zero] at this
      exact this
    by_cases hne : a0 ^^^ b0 = 0 ∧ a1 ^^^ b1 = 0 ∧ a2 ^^^ b2 = 0 ∧ a3 ^^^ b3 = 0
    · obtain ⟨e0, e1, e2, e3⟩ := hne
      rw [z _ _ e0, z _ _ e1, z _ _ e2, z _ _ e3]
    · have hb := Crc.burst c [] q a0 a1 a2 a3 _ _ _ _ x0 x1 x2 x3 hne
      rw [k, k, k, k] at hb
      exact absurd h hb
theorem spot_eq (s x : Int) : Rc.spot s x = be 8 s.toNat ++ be 4 x.toNat := by
  simp [Rc.spot, Rc.flat]
/-- The same bytes: the same beginning, the same checksum. -/
theorem enc_parts {kind salt sector kind' salt' sector' : Int} {p q : List Nat} (hp : p.length ≤ 59) (hq : q.length ≤ 59) (h : enc kind salt sector p = enc kind' salt' sector' q) :
    body kind p = body kind' q ∧ Crc.upd 0#32 (Rc.spot salt sector ++ body kind p) = Crc.upd 0#32 (Rc.spot salt' sector' ++ body kind p) := by
  unfold enc at h
  have h1 := List.append_inj h (by rw [body_length _ _ hp, body_length _ _ hq])
  refine ⟨h1.1, ?_⟩
  have h2 := be_inj _ _ (Crc.U_lt _) (Crc.U_lt _) h1.2
  unfold sum at h2
  have h3 := Crc.U_inj _ _ h2
  rw [h3, h1.1]
/-- Another kind, another frame. -/
theorem other_kind (kind kind' salt sector : Int) (p : List Nat) (hm : may kind salt sector) (hp : p.length ≤ 59) : good kind' salt sector (enc kind salt sector p) ↔ kind' = kind := by
  constructor
  · intro hg
    obtain ⟨hm', -, h⟩ := hg
    rw [sub_enc _ _ _ _ hp, enc_fill _ _ _ _ hp] at h
    have h1 := (enc_parts hp hp h).1
    unfold body at h1
    injection h1 with h2 _
    unfold may at hm hm'
    omega
  · rintro rfl; exact round _ _ _ _ hm hp
theorem other_sector (kind salt sector sector' : Int) (p : List Nat) (hm : may kind salt sector) (hp : p.length ≤ 59) : good kind salt sector' (enc kind salt sector p) ↔ sector' = sector := by
  constructor
  · intro hg
    obtain ⟨hm', -, h⟩ := hg
    rw [sub_enc _ _ _ _ hp, enc_fill _ _ _ _ hp] at h
    have h1 := (enc_parts hp hp h).2
    rw [spot_eq, spot_eq, List.append_assoc, List.append_assoc, Crc.upd_append, Crc.upd_append _ (be 8 salt.toNat)] at h1
    have h2 := be_inj _ _ (by unfold may at hm'; omega) (by unfold may at hm; omega) (burst_eq _ _ _ _ (be_length _ _) (be_length _ _) (be_lt _ _) (be_lt _ _) h1)
    unfold may at hm hm'
    omega
  · rintro rfl; exact round _ _ _ _ hm hp
theorem other_salt (kind salt salt' sector : Int) (p : List Nat) (hm : may kind salt sector) (hp : p.length ≤ 59) (hs : 0 ≤ salt') (h32 : salt'.toNat / 4294967296 = salt.toNat / 4294967296) : good kind salt' sector (enc kind salt sector p) ↔ salt' = salt := by
  constructor
  · intro hg
    obtain ⟨hm', -, h⟩ := hg
    rw [sub_enc _ _ _ _ hp, enc_fill _ _ _ _ hp] at h
    have h1 := (enc_parts hp hp h).2
    rw [spot_eq, spot_eq, be8, be8, h32, List.append_assoc, List.append_assoc, List.append_assoc, List.append_assoc, Crc.upd_append, Crc.upd_append _ (be 4 (salt.toNat / 4294967296))] at h1
    have h2 := congrArg num (burst_eq _ _ _ _ (be_length _ _) (be_length _ _) (be_lt _ _) (be_lt _ _) h1)
    rw [num_be, num_be, show (256 : Nat) ^ 4 = 4294967296 from rfl] at h2
    unfold may at hm
    omega
  · rintro rfl; exact round _ _ _ _ hm hp
theorem md_append (a q : List Nat) (p : Nat) (xs : List Nat) (n : Nat) (h : p + n ≤ a.length) : Crc.md (a ++ q) p xs n = Crc.md a p xs n ++ q := by
  induction n with
  | zero => rfl
  | succ n ih =>
    unfold Crc.md
    rw [ih (by omega)]
    have hl := Crc.md_length a p xs n
    rw [List.set_append_left _ _ (by omega), List.getD_eq_getElem?_getD, List.getElem?_append_left (by omega), ← List.getD_eq_getElem?_getD]
theorem md_behind (a q : List Nat) (xs : List Nat) (n : Nat) : Crc.md (a ++ q) a.length xs n = a ++ Crc.md q 0 xs n := by
  induction n with
  | zero => rfl
  | succ n ih =>
    unfold Crc.md
    rw [ih, List.set_append_right _ _ (by omega), List.getD_eq_getElem?_getD, List.getElem?_append_right (by omega), show a.length + n - a.length = 0 + n by omega, ← List.getD_eq_getElem?_getD]
/-- A frame of which four neighbouring bytes are changed, all before the checksum or all in it, is none. -/
theorem torn (kind salt sector : Int) (p : List Nat) (a x0 x1 x2 x3 : Nat) (hp : p.length ≤ 59) (h0 : x0 < 256) (h1 : x1 < 256) (h2 : x2 < 256) (h3 : x3 < 256)
    (hne : ¬ (x0 = 0 ∧ x1 = 0 ∧ x2 = 0 ∧ x3 = 0)) (ha : a + 4 ≤ 60 ∨ a = 60) : ¬ good kind salt sector (Crc.md (enc kind salt sector p) a [x0, x1, x2, x3] 4) := by
  intro hg
  obtain ⟨-, hl, h⟩ := hg
  have hb := body_length kind p hp
  rcases ha with ha | rfl
  · have e : Crc.md (enc kind salt sector p) a [x0, x1, x2, x3] 4 = Crc.md (body kind p) a [x0, x1, x2, x3] 4 ++ be 4 (sum kind salt sector p) := md_append _ _ _ _ _ (by omega)
    have hs := sub59 _ hl
    have hml := Crc.md_length (body kind p) a [x0, x1, x2, x3] 4
    generalize Rc.sub (Crc.md (enc kind salt sector p) a [x0, x1, x2, x3] 4) 1 59 = q at h hs
    rw [e] at h
    unfold enc at h
    have g := List.append_inj h (by rw [body_length _ _ (by omega), hml, hb])
    have g2 := be_inj _ _ (Crc.U_lt _) (Crc.U_lt _) g.2
    unfold sum at g2
    have g3 := Crc.U_inj _ _ g2
    rw [g.1, Crc.upd_append, Crc.upd_append] at g3
    exact Crc.burst_md _ (body kind p) a x0 x1 x2 x3 (by omega) h0 h1 h2 h3 hne g3.symm
  · have e : Crc.md (enc kind salt sector p) 60 [x0, x1, x2, x3] 4 = body kind p ++ Crc.md (be 4 (sum kind salt sector p)) 0 [x0, x1, x2, x3] 4 := by
      have := md_behind (body kind p) (be 4 (sum kind salt sector p)) [x0, x1, x2, x3] 4
      rw [hb] at this
      exact this
    have es : Rc.sub (Crc.md (enc kind salt sector p) 60 [x0, x1, x2, x3] 4) 1 59 = p ++ List.replicate (59 - p.length) 0 := by
      rw [e]
      unfold body Rc.sub
      rw [List.cons_append, List.drop_succ_cons, List.drop_zero]
      exact List.take_left' (fill_length p hp)
    rw [es, enc_fill _ _ _ _ hp] at h
    have hbm := Crc.burst_md 0#32 (enc kind salt sector p) 60 x0 x1 x2 x3 (by rw [enc_length _ _ _ _ hp]; omega) h0 h1 h2 h3 hne
    exact hbm (congrArg _ h)
end Go.Proofs.YtjfgnojmdbfnmaaDoor.Fr
