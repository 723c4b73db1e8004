/-
  FrMath: Plain mathematics of frames: the bytes, what is read back, and what a change does to them. Nothing of the program.
  FrWalk: The walks of frame.isPlace, frame.checksum and frame.Encode.
  FrDecode: The walk of frame.Decode.
  FrRef: The walks of the reference of frames: May, Encode, Decode.
  FrRefDecode: The walk of the reference's Decode of frames.
  FrAwake: The walk of layer 6's Awake.
  HdMath: Plain mathematics of region headers: when one is valid, its bytes, what is read back. Nothing of the program.
  HdWords: Words on headers as values: six cells of a block, two headers compared.
  HdParse0: Words on the state while a header or a superblock is read.
-/
import Derived.Test.YtcdomlgnfbdeoaaBase
import Derived.Deep.DeepCutAuto
import Derived.Deep.CutBlock
import Derived.OwnWalk
import Derived.Deep.AppendLies
import Derived.Lib.SlBytesConst
import Derived.Laws.StructEq
section
namespace Go.Proofs.Ytcdomlgnfbdeoaa.Fr
open Wire
/-- Are there frames of this kind, for this salt and sector? -/
def may (kind salt sector : Int) : Prop := 1 ≤ kind ∧ kind ≤ 4 ∧ 0 ≤ salt ∧ 0 ≤ sector ∧ sector < 1048576
instance (kind salt sector : Int) : Decidable (may kind salt sector) := by unfold may; infer_instance
/-- What precedes the checksum. -/
def body (kind : Int) (p : List Nat) : List Nat := kind.toNat :: (p ++ List.replicate (59 - p.length) 0)
def sum (kind salt sector : Int) (p : List Nat) : Nat := Crc.U (Crc.upd 0#32 (Rc.spot salt sector ++ body kind p))
def enc (kind salt sector : Int) (p : List Nat) : List Nat := body kind p ++ be 4 (sum kind salt sector p)
/-- Is b a frame? -/
def good (kind salt sector : Int) (b : List Nat) : Prop := may kind salt sector ∧ b.length = 64 ∧ enc kind salt sector (Rc.sub b 1 59) = b
theorem body_length (kind : Int) (p : List Nat) (h : p.length ≤ 59) : (body kind p).length = 60 := by
  unfold body
  rw [List.length_cons, List.length_append, List.length_replicate]; omega
theorem enc_length (kind salt sector : Int) (p : List Nat) (h : p.length ≤ 59) : (enc kind salt sector p).length = 64 := by
  unfold enc
  rw [List.length_append, body_length _ _ h, be_length]
theorem body_lt (kind : Int) (p : List Nat) (hk : 1 ≤ kind ∧ kind ≤ 4) (hp : ∀ x ∈ p, x < 256) : ∀ x ∈ body kind p, x < 256 := by
  intro x hx
  unfold body at hx
  rcases List.mem_cons.1 hx with rfl | h
  · omega
  rcases List.mem_append.1 h with h | h
  · exact hp x h
  · rw [(List.mem_replicate.1 h).2]; decide
theorem enc_lt (kind salt sector : Int) (p : List Nat) (hk : 1 ≤ kind ∧ kind ≤ 4) (hp : ∀ x ∈ p, x < 256) : ∀ x ∈ enc kind salt sector p, x < 256 := by
  intro x hx
  unfold enc at hx
  rcases List.mem_append.1 hx with h | h
  · exact body_lt kind p hk hp x h
  · exact be_lt _ _ x h
theorem body_full (kind : Int) (p : List Nat) (h : p.length = 59) : body kind p = kind.toNat :: p := by
  unfold body
  rw [h]
  simp
theorem fill_length (p : List Nat) (h : p.length ≤ 59) : (p ++ List.replicate (59 - p.length) 0).length = 59 := by
  rw [List.length_append, List.length_replicate]; omega
theorem body_fill (kind : Int) (p : List Nat) (h : p.length ≤ 59) : body kind (p ++ List.replicate (59 - p.length) 0) = body kind p := by
  rw [body_full _ _ (fill_length p h)]; rfl
theorem enc_fill (kind salt sector : Int) (p : List Nat) (h : p.length ≤ 59) : enc kind salt sector (p ++ List.replicate (59 - p.length) 0) = enc kind salt sector p := by
  unfold enc sum
  rw [body_fill kind p h]
theorem sub_enc (kind salt sector : Int) (p : List Nat) (h : p.length ≤ 59) : Rc.sub (enc kind salt sector p) 1 59 = p ++ List.replicate (59 - p.length) 0 := by
  have hl := fill_length p h
  unfold enc body Rc.sub
  rw [List.cons_append, List.drop_succ_cons, List.drop_zero]
  exact List.take_left' hl
theorem sub59 (b : List Nat) (h : b.length = 64) : (Rc.sub b 1 59).length = 59 := Rc.sub_length b 1 59 (by omega)
/-- What was encoded is a frame. -/
theorem round (kind salt sector : Int) (p : List Nat) (hm : may kind salt sector) (h : p.length ≤ 59) : good kind salt sector (enc kind salt sector p) :=
  ⟨hm, enc_length _ _ _ _ h, by rw [sub_enc _ _ _ _ h, enc_fill _ _ _ _ h]⟩
theorem be_inj (n m : Nat) (hn : n < 4294967296) (hm : m < 4294967296) (h : be 4 n = be 4 m) : n = m := by
  have e := congrArg num h
  rw [num_be, num_be, show (256 : Nat) ^ 4 = 4294967296 from rfl] at e
  omega
theorem be8 (n : Nat) : be 8 n = be 4 (n / 4294967296) ++ be 4 n := by
  have e : ∀ k, n / 256 ^ (4 + k) % 256 = n / 4294967296 / 256 ^ k % 256 := fun k => by
    rw [Nat.div_div_eq_div_mul, Nat.pow_add]
  show [n / 256 ^ (4 + 3) % 256, n / 256 ^ (4 + 2) % 256, n / 256 ^ (4 + 1) % 256, n / 256 ^ (4 + 0) % 256, n / 256 ^ 3 % 256, n / 256 ^ 2 % 256, n / 256 ^ 1 % 256, n / 256 ^ 0 % 256] = [n / 4294967296 / 256 ^ 3 % 256, n / 4294967296 / 256 ^ 2 % 256, n / 4294967296 / 256 ^ 1 % 256, n / 4294967296 / 256 ^ 0 % 256] ++ [n / 256 ^ 3 % 256, n / 256 ^ 2 % 256, n / 256 ^ 1 % 256, n / 256 ^ 0 % 256]
  rw [e 3, e 2, e 1, e 0]; rfl
/-- Two messages that part in four neighbouring bytes at most, and have the same checksum, are the same. -/
theorem burst_eq (c : Crc.B32) (q a b : List Nat) (ha : a.length = 4) (hb : b.length = 4) (la : ∀ x ∈ a, x < 256) (lb : ∀ x ∈ b, x < 256) (h : Crc.upd c (a ++ q) = Crc.upd c (b ++ q)) : a = b := by
  match a, ha, b, hb with
  | [a0, a1, a2, a3], _, [b0, b1, b2, b3], _ =>
    have la0 := la a0 (by simp); have la1 := la a1 (by simp); have la2 := la a2 (by simp); have la3 := la a3 (by simp)
    have lb0 := lb b0 (by simp); have lb1 := lb b1 (by simp); have lb2 := lb b2 (by simp); have lb3 := lb b3 (by simp)
    have x0 := Nat.xor_lt_two_pow (n := 8) la0 lb0
    have x1 := Nat.xor_lt_two_pow (n := 8) la1 lb1
    have x2 := Nat.xor_lt_two_pow (n := 8) la2 lb2
    have x3 := Nat.xor_lt_two_pow (n := 8) la3 lb3
    have k : ∀ u v : Nat, u ^^^ (u ^^^ v) = v := fun u v => by rw [← Nat.xor_assoc, Nat.xor_self, Nat.zero_xor]
    have z : ∀ u v : Nat, u ^^^ v = 0 → u = v := fun u v e => by
      have := k u v
      rw [e, Nat.xor_zero] at this
      exact this
    by_cases hne : a0 ^^^ b0 = 0 ∧ a1 ^^^ b1 = 0 ∧ a2 ^^^ b2 = 0 ∧ a3 ^^^ b3 = 0
    · obtain ⟨e0, e1, e2, e3⟩ := hne
      rw [z _ _ e0, z _ _ e1, z _ _ e2, z _ _ e3]
    · have hb := Crc.burst c [] q a0 a1 a2 a3 _ _ _ _ x0 x1 x2 x3 hne
      rw [k, k, k, k] at hb
      exact absurd h hb
theorem spot_eq (s x : Int) : Rc.spot s x = be 8 s.toNat ++ be 4 x.toNat := by
  simp [Rc.spot, Rc.flat]
/-- The same bytes: the same beginning, the same checksum. -/
theorem enc_parts {kind salt sector kind' salt' sector' : Int} {p q : List Nat} (hp : p.length ≤ 59) (hq : q.length ≤ 59) (h : enc kind salt sector p = enc kind' salt' sector' q) :
    body kind p = body kind' q ∧ Crc.upd 0#32 (Rc.spot salt sector ++ body kind p) = Crc.upd 0#32 (Rc.spot salt' sector' ++ body kind p) := by
  unfold enc at h
  have h1 := List.append_inj h (by rw [body_length _ _ hp, body_length _ _ hq])
  refine ⟨h1.1, ?_⟩
  have h2 := be_inj _ _ (Crc.U_lt _) (Crc.U_lt _) h1.2
  unfold sum at h2
  have h3 := Crc.U_inj _ _ h2
  rw [h3, h1.1]
/-- Another kind, another frame. -/
theorem other_kind (kind kind' salt sector : Int) (p : List Nat) (hm : may kind salt sector) (hp : p.length ≤ 59) : good kind' salt sector (enc kind salt sector p) ↔ kind' = kind := by
  constructor
  · intro hg
    obtain ⟨hm', -, h⟩ := hg
    rw [sub_enc _ _ _ _ hp, enc_fill _ _ _ _ hp] at h
    have h1 := (enc_parts hp hp h).1
    unfold body at h1
    injection h1 with h2 _
    unfold may at hm hm'
    omega
  · rintro rfl; exact round _ _ _ _ hm hp
theorem other_sector (kind salt sector sector' : Int) (p : List Nat) (hm : may kind salt sector) (hp : p.length ≤ 59) : good kind salt sector' (enc kind salt sector p) ↔ sector' = sector := by
  constructor
  · intro hg
    obtain ⟨hm', -, h⟩ := hg
    rw [sub_enc _ _ _ _ hp, enc_fill _ _ _ _ hp] at h
    have h1 := (enc_parts hp hp h).2
    rw [spot_eq, spot_eq, List.append_assoc, List.append_assoc, Crc.upd_append, Crc.upd_append _ (be 8 salt.toNat)] at h1
    have h2 := be_inj _ _ (by unfold may at hm'; omega) (by unfold may at hm; omega) (burst_eq _ _ _ _ (be_length _ _) (be_length _ _) (be_lt _ _) (be_lt _ _) h1)
    unfold may at hm hm'
    omega
  · rintro rfl; exact round _ _ _ _ hm hp
theorem other_salt (kind salt salt' sector : Int) (p : List Nat) (hm : may kind salt sector) (hp : p.length ≤ 59) (hs : 0 ≤ salt') (h32 : salt'.toNat / 4294967296 = salt.toNat / 4294967296) : good kind salt' sector (enc kind salt sector p) ↔ salt' = salt := by
  constructor
  · intro hg
    obtain ⟨hm', -, h⟩ := hg
    rw [sub_enc _ _ _ _ hp, enc_fill _ _ _ _ hp] at h
    have h1 := (enc_parts hp hp h).2
    rw [spot_eq, spot_eq, be8, be8, h32, List.append_assoc, List.append_assoc, List.append_assoc, List.append_assoc, Crc.upd_append, Crc.upd_append _ (be 4 (salt.toNat / 4294967296))] at h1
    have h2 := congrArg num (burst_eq _ _ _ _ (be_length _ _) (be_length _ _) (be_lt _ _) (be_lt _ _) h1)
    rw [num_be, num_be, show (256 : Nat) ^ 4 = 4294967296 from rfl] at h2
    unfold may at hm
    omega
  · rintro rfl; exact round _ _ _ _ hm hp
theorem md_append (a q : List Nat) (p : Nat) (xs : List Nat) (n : Nat) (h : p + n ≤ a.length) : Crc.md (a ++ q) p xs n = Crc.md a p xs n ++ q := by
  induction n with
  | zero => rfl
  | succ n ih =>
    unfold Crc.md
    rw [ih (by omega)]
    have hl := Crc.md_length a p xs n
    rw [List.set_append_left _ _ (by omega), List.getD_eq_getElem?_getD, List.getElem?_append_left (by omega), ← List.getD_eq_getElem?_getD]
theorem md_behind (a q : List Nat) (xs : List Nat) (n : Nat) : Crc.md (a ++ q) a.length xs n = a ++ Crc.md q 0 xs n := by
  induction n with
  | zero => rfl
  | succ n ih =>
    unfold Crc.md
    rw [ih, List.set_append_right _ _ (by omega), List.getD_eq_getElem?_getD, List.getElem?_append_right (by omega), show a.length + n - a.length = 0 + n by omega, ← List.getD_eq_getElem?_getD]
/-- A frame of which four neighbouring bytes are changed, all before the checksum or all in it, is none. -/
theorem torn (kind salt sector : Int) (p : List Nat) (a x0 x1 x2 x3 : Nat) (hp : p.length ≤ 59) (h0 : x0 < 256) (h1 : x1 < 256) (h2 : x2 < 256) (h3 : x3 < 256)
    (hne : ¬ (x0 = 0 ∧ x1 = 0 ∧ x2 = 0 ∧ x3 = 0)) (ha : a + 4 ≤ 60 ∨ a = 60) : ¬ good kind salt sector (Crc.md (enc kind salt sector p) a [x0, x1, x2, x3] 4) := by
  intro hg
  obtain ⟨-, hl, h⟩ := hg
  have hb := body_length kind p hp
  rcases ha with ha | rfl
  · have e : Crc.md (enc kind salt sector p) a [x0, x1, x2, x3] 4 = Crc.md (body kind p) a [x0, x1, x2, x3] 4 ++ be 4 (sum kind salt sector p) := md_append _ _ _ _ _ (by omega)
    have hs := sub59 _ hl
    have hml := Crc.md_length (body kind p) a [x0, x1, x2, x3] 4
    generalize Rc.sub (Crc.md (enc kind salt sector p) a [x0, x1, x2, x3] 4) 1 59 = q at h hs
    rw [e] at h
    unfold enc at h
    have g := List.append_inj h (by rw [body_length _ _ (by omega), hml, hb])
    have g2 := be_inj _ _ (Crc.U_lt _) (Crc.U_lt _) g.2
    unfold sum at g2
    have g3 := Crc.U_inj _ _ g2
    rw [g.1, Crc.upd_append, Crc.upd_append] at g3
    exact Crc.burst_md _ (body kind p) a x0 x1 x2 x3 (by omega) h0 h1 h2 h3 hne g3.symm
  · have e : Crc.md (enc kind salt sector p) 60 [x0, x1, x2, x3] 4 = body kind p ++ Crc.md (be 4 (sum kind salt sector p)) 0 [x0, x1, x2, x3] 4 := by
      have := md_behind (body kind p) (be 4 (sum kind salt sector p)) [x0, x1, x2, x3] 4
      rw [hb] at this
      exact this
    have es : Rc.sub (Crc.md (enc kind salt sector p) 60 [x0, x1, x2, x3] 4) 1 59 = p ++ List.replicate (59 - p.length) 0 := by
      rw [e]
      unfold body Rc.sub
      rw [List.cons_append, List.drop_succ_cons, List.drop_zero]
      exact List.take_left' (fill_length p hp)
    rw [es, enc_fill _ _ _ _ hp] at h
    have hbm := Crc.burst_md 0#32 (enc kind salt sector p) 60 x0 x1 x2 x3 (by rw [enc_length _ _ _ _ hp]; omega) h0 h1 h2 h3 hne
    exact hbm (congrArg _ h)
end Go.Proofs.Ytcdomlgnfbdeoaa.Fr
end
section
namespace Go.Proofs.Ytcdomlgnfbdeoaa
open Go.RowKit

theorem sl_nil : SlIs none 0 0 := ⟨fun _ => ⟨rfl, rfl⟩, Nat.le_refl _, by decide⟩
theorem bs_nil (w : World) (B : Nat) : Bs w B none [] := fun k hk => absurd hk (by simp)
/-- What Encode leaves: the error, and the bytes in a row of their own where there is none. -/
def FrEnc (w : World) (b : List Nat) (er : Int) (e : Ending) (w' : World) : Prop :=
  ∃ A' n' c', e = .returned (.tuple #[.slice A' n' c', .int .i64 er]) ∧ SlIs A' n' c' ∧ (er = 0 → n' = 64 ∧ w'.ownsRow w.heap.size 5 1 (.slice A' 64 c') 64 (vals b)) ∧ (er ≠ 0 → n' = 0) ∧ Below w.heap.size w w'
theorem splice_body (kd : Nat) (l : List Nat) (n : Nat) (hl : l.length = n) : splice (vals (kd :: List.replicate 59 0)) 1 (vals l) = vals (Fr.body (kd : Int) l) := by
  have e1 : vals (kd :: List.replicate 59 0) = .int .u8 ((kd : Nat) : Int) :: vals (List.replicate 59 0) := rfl
  have e2 : (vals (List.replicate 59 0)).drop n = vals (List.replicate (59 - n) 0) := by
    unfold vals
    rw [← List.map_drop, List.drop_replicate]
  have e3 : vals (Fr.body (kd : Int) l) = .int .u8 ((kd : Nat) : Int) :: (vals l ++ vals (List.replicate (59 - n) 0)) := by
    unfold Fr.body
    rw [hl, Int.toNat_natCast, ← vals_append]; rfl
  unfold splice
  rw [vals_length, hl, e1, e3, Nat.add_comm 1 n, List.drop_succ_cons, e2]; rfl
end Go.Proofs.Ytcdomlgnfbdeoaa
end
section
namespace Go.Proofs.Ytcdomlgnfbdeoaa
open Go.RowKit
/-- The first error of Encode. -/
def Fr.err (k s x : Int) (n : Nat) : Int := if Fr.may k s x then (if 59 < n then 3 else 0) else 2
/-- Nothing was decoded. -/
def NoFr (w : World) (e : Ending) (w' : World) : Prop := e = .returned (.tuple #[.slice none 0 0, .bool false]) ∧ Below w.heap.size w w'
/-- The payload, in a row of its own. -/
def GotFr (w : World) (p : List Nat) (e : Ending) (w' : World) : Prop := ∃ A1 c1, e = .returned (.tuple #[.slice A1 59 c1, .bool true]) ∧ SlIs A1 59 c1 ∧ BsIn w' w.heap.size w'.heap.size A1 p ∧ Below w.heap.size w w'
end Go.Proofs.Ytcdomlgnfbdeoaa
end
section
namespace Go.Proofs.Ytcdomlgnfbdeoaa
open Go.RowKit
/-- A literal's row is the call's own. -/
theorem own_lit (w : World) (l : List Nat) (n : Nat) (hl : l.length = n) (h0 : n ≤ 1000) : (w.alloc (.cells (vals l).toArray 5)).ownsRow w.heap.size 5 1 (.slice (some ⟨w.heap.size, 0, none⟩) n n) n (vals l) := by
  have hv : (vals l).length = n := by rw [vals_length, hl]
  refine ⟨by rw [hv]; omega, .inr ⟨w.heap.size, n, (vals l).toArray, rfl, Nat.le_refl _, heap_alloc_new w _, Nat.le_refl _, by unfold maxLen; omega, ?_, ?_⟩⟩
  · rw [List.size_toArray, hv]; omega
  · rw [Nat.mul_one, List.take_of_length_le (by rw [hv]; exact Nat.le_refl _)]
theorem rep_snoc (l : List Nat) (j : Nat) : (l ++ List.replicate j 0) ++ [0] = l ++ List.replicate (j + 1) 0 := by
  rw [List.append_assoc, List.replicate_succ']
/-- The length of a slice's value. -/
def slLen (v : Value) : Nat := match v with
  | .slice _ n _ => n
  | _ => 0
end Go.Proofs.Ytcdomlgnfbdeoaa
end
section
namespace Go.Proofs.Ytcdomlgnfbdeoaa
open Go.RowKit
theorem bsin_drawn {w : World} {lo hi : Nat} {A : Option Addr} {l : List Nat} (h : BsIn w lo hi A l) (k : Nat) : BsIn (w.drewN k) lo hi A l := h
end Go.Proofs.Ytcdomlgnfbdeoaa
end
section
namespace Go.Proofs.Ytcdomlgnfbdeoaa
open Go.RowKit
theorem ab_err : Fr.err 2 7 80 2 = 0 := by decide
theorem ab_parts : (Fr.enc 2 7 80 [97, 98]).getD 0 0 = 2 ∧ (Rc.sub (Fr.enc 2 7 80 [97, 98]) 1 59).getD 1 0 = 98 ∧ (Rc.sub (Fr.enc 2 7 80 [97, 98]) 1 59).length = 59 := by
  rw [Fr.sub_enc _ _ _ _ (by decide)]
  exact ⟨rfl, rfl, rfl⟩
end Go.Proofs.Ytcdomlgnfbdeoaa
end
section
namespace Go.Proofs.Ytcdomlgnfbdeoaa
namespace Wire
theorem num_mod (k n m : Nat) : be k (n + m * 256 ^ k) = be k n := by
  induction k generalizing m with
  | zero => rfl
  | succ k ih =>
    have e : n + m * 256 ^ (k + 1) = n + (m * 256) * 256 ^ k := by rw [Nat.pow_succ, Nat.mul_comm (256 ^ k) 256, Nat.mul_assoc]
    rw [be_succ, be_succ, e, ih (m * 256), Nat.add_mul_div_right _ _ (Nat.pow_pos (by decide)), Nat.add_mul_mod_self_right]
theorem be_num (l : List Nat) (h : ∀ x ∈ l, x < 256) : be l.length (num l) = l := by
  induction l with
  | nil => rfl
  | cons x l ih =>
    have hl : ∀ y ∈ l, y < 256 := fun y hy => h y (List.mem_cons_of_mem _ hy)
    have hx := h x (List.mem_cons_self ..)
    have hn := num_lt l hl
    rw [List.length_cons, num_cons, be_succ, Nat.add_comm (x * _) (num l), num_mod, ih hl, Nat.add_mul_div_right _ _ (Nat.pow_pos (by decide)), Nat.div_eq_of_lt hn, Nat.zero_add, Nat.mod_eq_of_lt hx]
end Wire
namespace Hd
open Wire
structure H where
  ver : Int
  slot : Int
  lay : Int
  seq : Int
  tail : Int
  now : Int
def zero : H := ⟨0, 0, 0, 0, 0, 0⟩
/-- Is each number in its range? -/
def valid (h : H) : Prop := (h.ver = 1 ∨ h.ver = 2) ∧ (0 ≤ h.slot ∧ h.slot ≤ 15) ∧ (1 ≤ h.lay ∧ h.lay ≤ 4294967295) ∧ (1 ≤ h.seq ∧ h.seq ≤ 281474976710655) ∧ (0 ≤ h.tail ∧ h.tail ≤ h.seq) ∧ (0 ≤ h.now ∧ h.now ≤ 549755813888)
instance (h : H) : Decidable (valid h) := by unfold valid; infer_instance
def body (h : H) : List Nat := be 1 h.ver.toNat ++ (be 1 h.slot.toNat ++ (be 4 h.lay.toNat ++ (be 6 h.seq.toNat ++ (be 6 h.tail.toNat ++ be 5 h.now.toNat))))
theorem body_length (h : H) : (body h).length = 23 := by simp [body, be_length]
theorem body_lt (h : H) : ∀ x ∈ body h, x < 256 := by
  intro x hx
  unfold body at hx
  rcases List.mem_append.1 hx with h | hx
  · exact be_lt _ _ x h
  rcases List.mem_append.1 hx with h | hx
  · exact be_lt _ _ x h
  rcases List.mem_append.1 hx with h | hx
  · exact be_lt _ _ x h
  rcases List.mem_append.1 hx with h | hx
  · exact be_lt _ _ x h
  rcases List.mem_append.1 hx with h | hx
  · exact be_lt _ _ x h
  exact be_lt _ _ x hx
/-- The bytes of a header's sector. -/
def enc (x : Int) (h : H) : List Nat := Fr.enc 1 0 x (body h)
theorem enc_length (x : Int) (h : H) : (enc x h).length = 64 := Fr.enc_length _ _ _ _ (by rw [body_length]; decide)
theorem enc_lt (x : Int) (h : H) : ∀ y ∈ enc x h, y < 256 := Fr.enc_lt _ _ _ _ (by decide) (body_lt h)
/-- The header that is read at the beginning of a payload. -/
def rd (p : List Nat) : H := ⟨num (p.take 1), num ((p.drop 1).take 1), num ((p.drop 2).take 4), num ((p.drop 6).take 6), num ((p.drop 12).take 6), num ((p.drop 18).take 5)⟩
theorem rd_body (h : H) (q : List Nat) (hv : valid h) : rd (body h ++ q) = h := by
  obtain ⟨h1, h2, h3, h4, h5, h6⟩ := hv
  have e : body h ++ q = be 1 h.ver.toNat ++ (be 1 h.slot.toNat ++ (be 4 h.lay.toNat ++ (be 6 h.seq.toNat ++ (be 6 h.tail.toNat ++ (be 5 h.now.toNat ++ q))))) := by simp [body]
  have p1 : (256 : Nat) ^ 1 = 256 := rfl
  have p4 : (256 : Nat) ^ 4 = 4294967296 := rfl
  have p5 : (256 : Nat) ^ 5 = 1099511627776 := rfl
  have p6 : (256 : Nat) ^ 6 = 281474976710656 := rfl
  have tk : ∀ (k n : Nat) (r : List Nat), (be k n ++ r).take k = be k n := fun k n r => List.take_left' (be_length k n)
  have dp : ∀ (j k n : Nat) (r : List Nat), (be k n ++ r).drop (k + j) = r.drop j := fun j k n r => by
    rw [← List.drop_drop, List.drop_left' (be_length k n)]
  have a1 : (body h ++ q).take 1 = be 1 h.ver.toNat := by rw [e]; exact tk 1 _ _
  have a2 : ((body h ++ q).drop 1).take 1 = be 1 h.slot.toNat := by
    rw [e, dp 0 1, List.drop_zero]; exact tk 1 _ _
  have a3 : ((body h ++ q).drop 2).take 4 = be 4 h.lay.toNat := by
    rw [e, dp 1 1, dp 0 1, List.drop_zero]; exact tk 4 _ _
  have a4 : ((body h ++ q).drop 6).take 6 = be 6 h.seq.toNat := by
    rw [e, dp 5 1, dp 4 1, dp 0 4, List.drop_zero]; exact tk 6 _ _
  have a5 : ((body h ++ q).drop 12).take 6 = be 6 h.tail.toNat := by
    rw [e, dp 11 1, dp 10 1, dp 6 4, dp 0 6, List.drop_zero]; exact tk 6 _ _
  have a6 : ((body h ++ q).drop 18).take 5 = be 5 h.now.toNat := by
    rw [e, dp 17 1, dp 16 1, dp 12 4, dp 6 6, dp 0 6, List.drop_zero]; exact tk 5 _ _
  unfold rd
  rw [a1, a2, a3, a4, a5, a6, num_be, num_be, num_be, num_be, num_be, num_be, p1, p4, p5, p6]
  obtain ⟨v, s, l, q', t, n⟩ := h
  simp only at h1 h2 h3 h4 h5 h6 ⊢
  congr 1 <;> omega
theorem body_rd (p : List Nat) (hl : 23 ≤ p.length) (hp : ∀ x ∈ p, x < 256) : body (rd p) = p.take 23 := by
  have one : ∀ (i k : Nat), i + k ≤ 23 → be k (num ((p.drop i).take k)) = (p.drop i).take k := fun i k h => by
    have hk : ((p.drop i).take k).length = k := by rw [List.length_take, List.length_drop]; omega
    have := be_num ((p.drop i).take k) (fun x hx => hp x (List.mem_of_mem_drop (List.mem_of_mem_take hx)))
    rwa [hk] at this
  have j : ∀ (i k : Nat), p.take i ++ (p.drop i).take k = p.take (i + k) := fun i k => (List.take_add ..).symm
  have b0 := one 0 1 (by decide)
  rw [List.drop_zero] at b0
  show be 1 (num (p.take 1) : Int).toNat ++ (be 1 (num ((p.drop 1).take 1) : Int).toNat ++ (be 4 (num ((p.drop 2).take 4) : Int).toNat ++ (be 6 (num ((p.drop 6).take 6) : Int).toNat ++ (be 6 (num ((p.drop 12).take 6) : Int).toNat ++ be 5 (num ((p.drop 18).take 5) : Int).toNat)))) = _
  simp only [Int.toNat_natCast]
  rw [b0, one 1 1 (by decide), one 2 4 (by decide), one 6 6 (by decide), one 12 6 (by decide), one 18 5 (by decide), ← List.append_assoc, j 1 1, ← List.append_assoc, j 2 4, ← List.append_assoc, j 6 6, ← List.append_assoc, j 12 6, j 18 5]
/-- Are the bytes behind the header's numbers all zero? -/
def rest0 (p : List Nat) : Bool := (p.drop 23).all (· == 0)
theorem rest0_iff (p : List Nat) : rest0 p = true ↔ p.drop 23 = List.replicate (p.length - 23) 0 := by
  unfold rest0
  rw [List.all_eq_true, List.eq_replicate_iff, List.length_drop]
  constructor
  · intro h
    exact ⟨rfl, fun x hx => by simpa using h x hx⟩
  · rintro ⟨-, h⟩ x hx
    simpa using h x hx
/-- Is b the sector of a valid header? -/
def good (x : Int) (b : List Nat) : Prop := Fr.good 1 0 x b ∧ valid (rd (Rc.sub b 1 59)) ∧ rest0 (Rc.sub b 1 59) = true
theorem fill_eq {p q : List Nat} (h : Fr.body 1 p = Fr.body 1 q) : p ++ List.replicate (59 - p.length) 0 = q ++ List.replicate (59 - q.length) 0 := by
  unfold Fr.body at h
  injection h
/-- The other definition: the header that is read has these bytes. -/
theorem again (x : Int) (b : List Nat) (hb : ∀ y ∈ b, y < 256) (hg : Fr.good 1 0 x b) : enc x (rd (Rc.sub b 1 59)) = b ↔ rest0 (Rc.sub b 1 59) = true := by
  obtain ⟨hm, hl, he⟩ := hg
  have hs := Fr.sub59 b hl
  have hlt : ∀ y ∈ Rc.sub b 1 59, y < 256 := fun y hy => hb y (List.mem_of_mem_drop (List.mem_of_mem_take hy))
  generalize Rc.sub b 1 59 = p at *
  have hbd := body_rd p (by omega) hlt
  have hln : (p.take 23).length = 23 := by rw [List.length_take]; omega
  rw [rest0_iff, hs]
  unfold enc
  rw [hbd]
  constructor
  · intro h
    have h1 := fill_eq (Fr.enc_parts (by rw [hln]; decide) (by omega) (h.trans he.symm)).1
    rw [hs, hln, Nat.sub_self, List.replicate_zero, List.append_nil] at h1
    have h2 := congrArg (List.drop 23) h1
    rw [List.drop_left' hln] at h2
    exact h2.symm
  · intro h
    rw [← Fr.enc_fill 1 0 x (p.take 23) (by rw [hln]; decide), hln, ← h, List.take_append_drop, he]
theorem sub_enc (x : Int) (h : H) : Rc.sub (enc x h) 1 59 = body h ++ List.replicate 36 0 := by
  unfold enc
  rw [Fr.sub_enc _ _ _ _ (by rw [body_length]; decide), body_length]
theorem rd_enc (x : Int) (h : H) (hv : valid h) : rd (Rc.sub (enc x h) 1 59) = h := by rw [sub_enc, rd_body h _ hv]
theorem rest0_enc (x : Int) (h : H) : rest0 (Rc.sub (enc x h) 1 59) = true := by
  rw [rest0_iff, sub_enc, List.drop_left' (body_length h), List.length_append, body_length, List.length_replicate]
theorem good_enc (x y : Int) (h : H) (hv : valid h) (hm : Fr.may 1 0 x) : good y (enc x h) ↔ y = x := by
  constructor
  · intro hg
    exact (Fr.other_sector 1 0 x y (body h) hm (by rw [body_length]; decide)).1 hg.1
  · rintro rfl
    exact ⟨Fr.round 1 0 y (body h) hm (by rw [body_length]; decide), by rw [rd_enc y h hv]; exact hv, rest0_enc y h⟩
theorem apart (x : Int) (a b : H) (ha : valid a) (hb : valid b) : enc x a = enc x b ↔ a = b := by
  constructor
  · intro h
    rw [← rd_enc x a ha, h, rd_enc x b hb]
  · rintro rfl; rfl
/-- The error of Encode. -/
def err (h : H) (x : Int) : Int := if valid h then (if 0 ≤ x ∧ x < 1048576 then 0 else 2) else 4
theorem err_fr (h : H) (x : Int) (hv : valid h) : err h x = if Fr.may 1 0 x then 0 else 2 := by
  unfold err
  rw [if_pos hv]
  by_cases hx : 0 ≤ x ∧ x < 1048576
  · rw [if_pos hx, if_pos (by unfold Fr.may; omega)]
  · rw [if_neg hx, if_neg (by unfold Fr.may; omega)]
end Hd
end Go.Proofs.Ytcdomlgnfbdeoaa
end
section
namespace Go.Proofs.Ytcdomlgnfbdeoaa
open Go.RowKit
theorem six_cells {w : World} {g : Nat} {a b c d e f : Value} {t : TypeId} (h : w.heap[g]? = some (.cells #[a, b, c, d, e, f] t (0, 0))) :
    w.cell? ⟨g, 0, none⟩ = some a ∧ w.cell? ⟨g, 1, none⟩ = some b ∧ w.cell? ⟨g, 2, none⟩ = some c ∧ w.cell? ⟨g, 3, none⟩ = some d ∧ w.cell? ⟨g, 4, none⟩ = some e ∧ w.cell? ⟨g, 5, none⟩ = some f := by
  refine ⟨?_, ?_, ?_, ?_, ?_, ?_⟩
  · rw [cell_of_row w g 0 _ t (0, 0) h]; rfl
  · rw [cell_of_row w g 1 _ t (0, 0) h]; rfl
  · rw [cell_of_row w g 2 _ t (0, 0) h]; rfl
  · rw [cell_of_row w g 3 _ t (0, 0) h]; rfl
  · rw [cell_of_row w g 4 _ t (0, 0) h]; rfl
  · rw [cell_of_row w g 5 _ t (0, 0) h]; rfl
theorem six_frozen {w : World} {g : Nat} {a b c d e f : Value} {t : TypeId} (h : w.heap[g]? = some (.cells #[a, b, c, d, e, f] t (0, 0))) :
    w.frozen? ⟨g, 0, none⟩ = false ∧ w.frozen? ⟨g, 1, none⟩ = false ∧ w.frozen? ⟨g, 2, none⟩ = false ∧ w.frozen? ⟨g, 3, none⟩ = false ∧ w.frozen? ⟨g, 4, none⟩ = false ∧ w.frozen? ⟨g, 5, none⟩ = false :=
  ⟨frozen_of_row w g 0 _ t h, frozen_of_row w g 1 _ t h, frozen_of_row w g 2 _ t h, frozen_of_row w g 3 _ t h, frozen_of_row w g 4 _ t h, frozen_of_row w g 5 _ t h⟩
theorem stored6 {w : World} {r : Nat} {a b c d e f a' b' c' d' e' f' : Value} {t : TypeId} (h : w.heap[r]? = some (.cells #[a, b, c, d, e, f] t (0, 0))) :
    ((((((w.setCell ⟨r, 0, none⟩ a').setCell ⟨r, 1, none⟩ b').setCell ⟨r, 2, none⟩ c').setCell ⟨r, 3, none⟩ d').setCell ⟨r, 4, none⟩ e').setCell ⟨r, 5, none⟩ f').heap[r]? = some (.cells #[a', b', c', d', e', f'] t (0, 0)) := by
  simp [World.setCell, Array.getElem?_modify, h]
theorem stored6_grown (w : World) (r : Nat) (a' b' c' d' e' f' : Value) : w.grownBy ((((((w.setCell ⟨r, 0, none⟩ a').setCell ⟨r, 1, none⟩ b').setCell ⟨r, 2, none⟩ c').setCell ⟨r, 3, none⟩ d').setCell ⟨r, 4, none⟩ e').setCell ⟨r, 5, none⟩ f') (some r) :=
  grown_trans' (grown_trans' (grown_trans' (grown_trans' (grown_trans' (grown_set _ _ _ _) (grown_set _ _ _ _)) (grown_set _ _ _ _)) (grown_set _ _ _ _)) (grown_set _ _ _ _)) (grown_set _ _ _ _)
theorem sd_new (w : World) (cs : Array Value) (t : TypeId) : Sd w w.heap.size (.cells cs t (0, 0)) (w.alloc (.cells cs t)) := ⟨heap_alloc_new _ _, (Below.refl _ w).alloc (Nat.le_refl _) _⟩
/-- A header as a value. -/
def Hd.val (h : Hd.H) : Value := .agg #[.int .i64 h.ver, .int .i64 h.slot, .int .i64 h.lay, .int .i64 h.seq, .int .i64 h.tail, .int .i64 h.now]
/-- Are they the same? -/
def Hd.same (a b : Hd.H) : Bool := a.ver == b.ver && (a.slot == b.slot && (a.lay == b.lay && (a.seq == b.seq && (a.tail == b.tail && a.now == b.now))))
theorem Hd.same_iff (a b : Hd.H) : Hd.same a b = true ↔ a = b := by
  obtain ⟨a0, a1, a2, a3, a4, a5⟩ := a
  obtain ⟨b0, b1, b2, b3, b4, b5⟩ := b
  unfold Hd.same
  simp only [Bool.and_eq_true, beq_iff_eq, Hd.H.mk.injEq]
theorem Hd.same_self (a : Hd.H) : Hd.same a a = true := (Hd.same_iff a a).2 rfl
theorem part_int {P : Program} (w : World) {e : TypeId} {k : IntKind} (he : P.underlying e = some (.int k)) (cs : Array Value) (j : Nat) (v : Value) (hv : cs[j]? = some v) : (part e cs j).run P w = .ok v w := by
  simp [part, isAgg, run_underlying he, hv]
/-- One field of numbers, compared. -/
theorem eq_field {P : Program} (w : World) {e : TypeId} {k : IntKind} (he : P.underlying e = some (.int k)) {f : Field} {nm : String} {off : Nat} (hf : (f.name, f.type, f.offset) = (nm, e, off)) (hn : nm ≠ "_") (d : Nat) (xs ys : Array Value) (x y : Int) (hx : xs[off]? = some (.int k x)) (hy : ys[off]? = some (.int k y)) (fs : List Field) :
    (Op.eqFields (d + 1) xs ys (f :: fs)).run P w = if (x == y) = true then (Op.eqFields (d + 1) xs ys fs).run P w else .ok false w := by
  obtain ⟨h1, h2, h3⟩ : f.name = nm ∧ f.type = e ∧ f.offset = off := by simpa using hf
  have e1 : (Op.equalIn (d + 1) e (.int k x) (.int k y)).run P w = .ok (x == y) w := by simp [Op.equalIn, run_underlying he]
  rw [Op.eqFields, if_pos (by rw [h1]; exact hn), h2, h3]
  simp only [Sem.run_bind, part_int w he xs off _ hx, part_int w he ys off _ hy, Result.andThen_ok, e1, Sem.run_ite, Sem.run_pure]
  cases (x == y) <;> rfl
end Go.Proofs.Ytcdomlgnfbdeoaa
end
section
namespace Go.Proofs.Ytcdomlgnfbdeoaa
open Go.RowKit
theorem Sd.lt {w w1 : World} {r : Nat} {o : Obj} (h : Sd w r o w1) : r < w1.heap.size := (Array.getElem?_eq_some_iff.1 h.1).1
section
variable {w W W' : World} {lo g gi : Nat} {bad bad' : Bool} {l l' : List Nat}
end
theorem num6 (l : List Nat) (k : Nat) (hk : k ≤ 6) (h : ∀ x ∈ l, x < 256) : Wire.num (l.take k) < 281474976710656 := by
  have h1 := Wire.num_lt (l.take k) (fun x hx => h x (List.mem_of_mem_take hx))
  have h2 : (256 : Nat) ^ (l.take k).length ≤ 256 ^ 6 := Nat.pow_le_pow_right (by decide) (by rw [List.length_take]; omega)
  have h3 : (256 : Nat) ^ 6 = 281474976710656 := rfl
  omega
end Go.Proofs.Ytcdomlgnfbdeoaa
end
