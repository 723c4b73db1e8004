/-
  Plain mathematics of records: the check, the head, the bytes at a place, and what is read back. Nothing of the program.
-/
import Derived.Test.YtjfgnojmdbfnmaaDoorWireMath
import Derived.Test.YtjfgnojmdbfnmaaDoorCrcMath
import Derived.Test.YtjfgnojmdbfnmaaDoorCrcBits
namespace Go.Proofs.YtjfgnojmdbfnmaaDoor.Rc
open Wire

structure Rec where
  kind : Int
  key : List Nat
  val : List Nat
  exp : Int
def none : Rec := ⟨0, [], [], 0⟩
def most (v : Int) : Int := if v = 1 then 4294967295 else 1099511627775
/-- Does the kind exist, and allow what is there? -/
def well (kd : Int) (n m : Nat) (x : Int) : Prop := kd = 1 ∨ (kd = 2 ∧ m = 0 ∧ x = 0) ∨ (kd = 3 ∧ m = 0 ∧ x = 0 ∧ n = 0)
instance (kd : Int) (n m : Nat) (x : Int) : Decidable (well kd n m x) := by unfold well; infer_instance
/-- The first error of a record with a key of n bytes and a value of m. -/
def chk (v kd : Int) (n m : Nat) (x : Int) : Int :=
  if v ≠ 1 ∧ v ≠ 2 then 2 else if ¬ well kd n m x then 4 else if kd ≠ 3 ∧ (n = 0 ∨ 255 < n) then 5 else if 65536 < m then 6 else if x < 0 ∨ most v < x then 7 else 0
def check (v : Int) (r : Rec) : Int := chk v r.kind r.key.length r.val.length r.exp
def len (r : Rec) : Nat := 16 + r.key.length + r.val.length
/-- Is the place one? -/
def place (seq off : Int) : Prop := 0 ≤ seq ∧ 0 ≤ off ∧ off ≤ 2147483647
instance (seq off : Int) : Decidable (place seq off) := by unfold place; infer_instance
/-- What Encode says. -/
def err (v seq off : Int) (r : Rec) : Int := if check v r ≠ 0 then check v r else if place seq off then 0 else 2
theorem chk_ok {v kd : Int} {n m : Nat} {x : Int} (h : chk v kd n m x = 0) : (v = 1 ∨ v = 2) ∧ well kd n m x ∧ n ≤ 255 ∧ m ≤ 65536 ∧ 0 ≤ x ∧ x ≤ most v ∧ 1 ≤ kd ∧ kd ≤ 3 := by
  unfold chk at h
  split at h
  · omega
  split at h
  · omega
  split at h
  · omega
  split at h
  · omega
  split at h
  · omega
  rename_i h1 h2 h3 h4 h5
  have hw : well kd n m x := Decidable.not_not.1 h2
  have hw2 := hw
  unfold well at hw2
  refine ⟨by omega, hw, by omega, by omega, by omega, by omega, by omega, by omega⟩
theorem most_le (v : Int) : most v ≤ 1099511627775 := by unfold most; split <;> omega

/-- Fields: a number and its width each. -/
def flat (fs : List (Nat × Nat)) : List Nat := fs.flatMap fun f => be f.2 f.1
theorem flat_nil : flat [] = [] := rfl
theorem flat_cons (f : Nat × Nat) (fs : List (Nat × Nat)) : flat (f :: fs) = be f.2 f.1 ++ flat fs := by unfold flat; rw [List.flatMap_cons]
theorem flat_append (a b : List (Nat × Nat)) : flat (a ++ b) = flat a ++ flat b := by unfold flat; rw [List.flatMap_append]
theorem flat_lt (fs : List (Nat × Nat)) : ∀ x ∈ flat fs, x < 256 := by
  intro x hx
  unfold flat at hx
  obtain ⟨f, _, h⟩ := List.mem_flatMap.1 hx
  exact be_lt _ _ x h
def fields (v : Int) (r : Rec) : List (Nat × Nat) :=
  if v = 1 then [(161, 1), (r.kind.toNat, 1), (r.key.length, 1), (0, 1), (r.val.length, 4), (r.exp.toNat, 4)]
  else [(162, 1), (r.key.length, 1), (16 * r.kind.toNat, 1), (r.val.length, 3), (0, 1), (r.exp.toNat, 5)]
def head (v : Int) (r : Rec) : List Nat := flat (fields v r)
def spot (seq off : Int) : List Nat := flat [(seq.toNat, 8), (off.toNat, 4)]
theorem head_length (v : Int) (r : Rec) : (head v r).length = 12 := by
  unfold head fields
  split <;> simp [flat, be_length]
theorem spot_length (seq off : Int) : (spot seq off).length = 12 := by simp [spot, flat, be_length]
def sum (v seq off : Int) (r : Rec) : Nat := Crc.U (Crc.upd 0#32 (spot seq off ++ (head v r ++ (r.key ++ r.val))))
def enc (v seq off : Int) (r : Rec) : List Nat := head v r ++ (be 4 (sum v seq off r) ++ (r.key ++ r.val))
theorem enc_length (v seq off : Int) (r : Rec) : (enc v seq off r).length = len r := by
  unfold enc len
  rw [List.length_append, List.length_append, List.length_append, head_length, be_length]; omega
theorem enc_lt (v seq off : Int) (r : Rec) (hk : ∀ x ∈ r.key, x < 256) (hv : ∀ x ∈ r.val, x < 256) : ∀ x ∈ enc v seq off r, x < 256 := by
  intro x hx
  unfold enc head at hx
  rcases List.mem_append.1 hx with h | h
  · exact flat_lt _ x h
  rcases List.mem_append.1 h with h | h
  · exact be_lt _ _ x h
  rcases List.mem_append.1 h with h | h
  · exact hk x h
  · exact hv x h

/-! What is read back. -/
def sub (b : List Nat) (i n : Nat) : List Nat := (b.drop i).take n
def kl (v : Int) (b : List Nat) : Nat := if v = 1 then b.getD 2 0 else b.getD 1 0
def vl (v : Int) (b : List Nat) : Nat := if v = 1 then num (sub b 4 4) else num (sub b 3 3)
def kd (v : Int) (b : List Nat) : Nat := if v = 1 then b.getD 1 0 else b.getD 2 0 / 16
def xp (v : Int) (b : List Nat) : Nat := if v = 1 then num (sub b 8 4) else num (sub b 7 5)
def rec (v : Int) (b : List Nat) : Rec := ⟨(kd v b : Int), sub b 16 (kl v b), sub b (16 + kl v b) (vl v b), (xp v b : Int)⟩
/-- Does b begin with a record? -/
def good (v seq off : Int) (b : List Nat) : Prop := 16 ≤ b.length ∧ 16 + kl v b + vl v b ≤ b.length ∧ check v (rec v b) = 0 ∧ place seq off ∧ enc v seq off (rec v b) = b.take (16 + kl v b + vl v b)
def dec (v seq off : Int) (b : List Nat) [Decidable (good v seq off b)] : Rec := if good v seq off b then rec v b else none
theorem sub_length (b : List Nat) (i n : Nat) (h : i + n ≤ b.length) : (sub b i n).length = n := by
  unfold sub; rw [List.length_take, List.length_drop]; omega
theorem be_one (n : Nat) : be 1 n = [n % 256] := by simp [be]
theorem shape1 (r : Rec) (seq off : Int) (more : List Nat) : enc 1 seq off r ++ more = 161 :: (r.kind.toNat % 256) :: (r.key.length % 256) :: 0 :: (be 4 r.val.length ++ (be 4 r.exp.toNat ++ (be 4 (sum 1 seq off r) ++ (r.key ++ (r.val ++ more))))) := by
  unfold enc head fields
  rw [if_pos rfl]
  simp [flat, be_one]
theorem shape2 (r : Rec) (seq off : Int) (more : List Nat) : enc 2 seq off r ++ more = 162 :: (r.key.length % 256) :: (16 * r.kind.toNat % 256) :: (be 3 r.val.length ++ (0 :: (be 5 r.exp.toNat ++ (be 4 (sum 2 seq off r) ++ (r.key ++ (r.val ++ more)))))) := by
  unfold enc head fields
  rw [if_neg (by decide)]
  simp [flat, be_one]
theorem be4 (n : Nat) : be 4 n = [n / 256 ^ 3 % 256, n / 256 ^ 2 % 256, n / 256 ^ 1 % 256, n / 256 ^ 0 % 256] := rfl
theorem be3 (n : Nat) : be 3 n = [n / 256 ^ 2 % 256, n / 256 ^ 1 % 256, n / 256 ^ 0 % 256] := rfl
theorem be5 (n : Nat) : be 5 n = [n / 256 ^ 4 % 256, n / 256 ^ 3 % 256, n / 256 ^ 2 % 256, n / 256 ^ 1 % 256, n / 256 ^ 0 % 256] := rfl
theorem sub_more (a b c : List Nat) (i n : Nat) (hi : i = a.length) (hn : n = b.length) : sub (a ++ (b ++ c)) i n = b := by
  subst hi hn
  unfold sub
  rw [List.drop_left, List.take_left]
theorem back (v seq off : Int) (r : Rec) (more : List Nat) (h : check v r = 0) : kl v (enc v seq off r ++ more) = r.key.length ∧ vl v (enc v seq off r ++ more) = r.val.length ∧ rec v (enc v seq off r ++ more) = r := by
  obtain ⟨hv, _, hn, hm, hx, hxm, hk1, hk3⟩ := chk_ok h
  have hkt : (r.kind.toNat : Int) = r.kind := by omega
  have hxt : (r.exp.toNat : Int) = r.exp := by omega
  rcases hv with rfl | rfl
  · have hxm' : r.exp ≤ 4294967295 := by have e : most 1 = 4294967295 := rfl; omega
    have a1 : kl 1 (enc 1 seq off r ++ more) = r.key.length := by
      rw [shape1]; show r.key.length % 256 = _; omega
    have a2 : vl 1 (enc 1 seq off r ++ more) = r.val.length := by
      rw [shape1]
      have e : vl 1 (161 :: (r.kind.toNat % 256) :: (r.key.length % 256) :: 0 :: (be 4 r.val.length ++ (be 4 r.exp.toNat ++ (be 4 (sum 1 seq off r) ++ (r.key ++ (r.val ++ more)))))) = num (be 4 r.val.length) := rfl
      rw [e, num_be, show (256 : Nat) ^ 4 = 4294967296 from rfl]; omega
    have a3 : kd 1 (enc 1 seq off r ++ more) = r.kind.toNat := by
      rw [shape1]; show r.kind.toNat % 256 = _; omega
    have a4 : xp 1 (enc 1 seq off r ++ more) = r.exp.toNat := by
      rw [shape1]
      have e : xp 1 (161 :: (r.kind.toNat % 256) :: (r.key.length % 256) :: 0 :: (be 4 r.val.length ++ (be 4 r.exp.toNat ++ (be 4 (sum 1 seq off r) ++ (r.key ++ (r.val ++ more)))))) = num (be 4 r.exp.toNat) := rfl
      rw [e, num_be, show (256 : Nat) ^ 4 = 4294967296 from rfl]; omega
    refine ⟨a1, a2, ?_⟩
    unfold rec
    rw [a1, a2, a3, a4, hkt, hxt]
    have e : enc 1 seq off r ++ more = (head 1 r ++ be 4 (sum 1 seq off r)) ++ (r.key ++ (r.val ++ more)) := by unfold enc; simp
    have e2 : enc 1 seq off r ++ more = (head 1 r ++ (be 4 (sum 1 seq off r) ++ r.key)) ++ (r.val ++ more) := by unfold enc; simp
    have b1 : sub (enc 1 seq off r ++ more) 16 r.key.length = r.key := by
      rw [e]; exact sub_more _ _ _ _ _ (by rw [List.length_append, head_length, be_length]) rfl
    have b2 : sub (enc 1 seq off r ++ more) (16 + r.key.length) r.val.length = r.val := by
      rw [e2]; exact sub_more _ _ _ _ _ (by rw [List.length_append, List.length_append, head_length, be_length]; omega) rfl
    rw [b1, b2]
  · have hxm' : r.exp ≤ 1099511627775 := by have e : most 2 = 1099511627775 := rfl; omega
    have a1 : kl 2 (enc 2 seq off r ++ more) = r.key.length := by
      rw [shape2]; show r.key.length % 256 = _; omega
    have a2 : vl 2 (enc 2 seq off r ++ more) = r.val.length := by
      rw [shape2]
      have e : vl 2 (162 :: (r.key.length % 256) :: (16 * r.kind.toNat % 256) :: (be 3 r.val.length ++ (0 :: (be 5 r.exp.toNat ++ (be 4 (sum 2 seq off r) ++ (r.key ++ (r.val ++ more))))))) = num (be 3 r.val.length) := rfl
      rw [e, num_be, show (256 : Nat) ^ 3 = 16777216 from rfl]; omega
    have a3 : kd 2 (enc 2 seq off r ++ more) = r.kind.toNat := by
      rw [shape2]; show 16 * r.kind.toNat % 256 / 16 = _; omega
    have a4 : xp 2 (enc 2 seq off r ++ more) = r.exp.toNat := by
      rw [shape2]
      have e : xp 2 (162 :: (r.key.length % 256) :: (16 * r.kind.toNat % 256) :: (be 3 r.val.length ++ (0 :: (be 5 r.exp.toNat ++ (be 4 (sum 2 seq off r) ++ (r.key ++ (r.val ++ more))))))) = num (be 5 r.exp.toNat) := rfl
      rw [e, num_be, show (256 : Nat) ^ 5 = 1099511627776 from rfl]; omega
    refine ⟨a1, a2, ?_⟩
    unfold rec
    rw [a1, a2, a3, a4, hkt, hxt]
    have e : enc 2 seq off r ++ more = (head 2 r ++ be 4 (sum 2 seq off r)) ++ (r.key ++ (r.val ++ more)) := by unfold enc; simp
    have e2 : enc 2 seq off r ++ more = (head 2 r ++ (be 4 (sum 2 seq off r) ++ r.key)) ++ (r.val ++ more) := by unfold enc; simp
    have b1 : sub (enc 2 seq off r ++ more) 16 r.key.length = r.key := by
      rw [e]; exact sub_more _ _ _ _ _ (by rw [List.length_append, head_length, be_length]) rfl
    have b2 : sub (enc 2 seq off r ++ more) (16 + r.key.length) r.val.length = r.val := by
      rw [e2]; exact sub_more _ _ _ _ _ (by rw [List.length_append, List.length_append, head_length, be_length]; omega) rfl
    rw [b1, b2]
/-- What was encoded is decoded, whatever follows it. -/
theorem round (v seq off : Int) (r : Rec) (more : List Nat) (h : check v r = 0) (hp : place seq off) : good v seq off (enc v seq off r ++ more) ∧ rec v (enc v seq off r ++ more) = r := by
  obtain ⟨h1, h2, h3⟩ := back v seq off r more h
  refine ⟨?_, h3⟩
  unfold good
  rw [h1, h2, h3]
  have hl := enc_length v seq off r
  unfold len at hl
  refine ⟨by rw [List.length_append]; omega, by rw [List.length_append]; omega, h, hp, ?_⟩
  rw [List.take_left' hl]
theorem inj (v seq off : Int) (a b : Rec) (ha : check v a = 0) (hb : check v b = 0) (h : enc v seq off a = enc v seq off b) : a = b := by
  have h1 := (back v seq off a [] ha).2.2
  have h2 := (back v seq off b [] hb).2.2
  rw [← h1, ← h2, h]
theorem getD_take' (l : List Nat) (n k : Nat) (hk : k < n) : (l.take n).getD k 0 = l.getD k 0 := by
  rw [List.getD_eq_getElem?_getD, List.getD_eq_getElem?_getD, List.getElem?_take_of_lt hk]
theorem sub_take (l : List Nat) (n i m : Nat) (h : i + m ≤ n) : sub (l.take n) i m = sub l i m := by
  unfold sub
  rw [List.drop_take, List.take_take, Nat.min_eq_left (by omega)]
/-- The head tells the lengths, also where the end is missing. -/
theorem lengths_take (v : Int) (b : List Nat) (n : Nat) (hn : 16 ≤ n) : kl v (b.take n) = kl v b ∧ vl v (b.take n) = vl v b := by
  unfold kl vl
  rw [getD_take' _ _ _ (by omega), getD_take' _ _ _ (by omega), sub_take _ _ _ _ (by omega), sub_take _ _ _ _ (by omega)]
  exact ⟨rfl, rfl⟩
theorem cut (v seq off : Int) (r : Rec) (n : Nat) (h : check v r = 0) (hn : n < len r) (s o : Int) : ¬ good v s o ((enc v seq off r).take n) := by
  intro hg
  obtain ⟨h1, h2, _⟩ := hg
  have hl : ((enc v seq off r).take n).length = n := by rw [List.length_take, enc_length]; omega
  rw [hl] at h1 h2
  obtain ⟨e1, e2⟩ := lengths_take v (enc v seq off r) n h1
  rw [e1, e2] at h2
  obtain ⟨f1, f2, _⟩ := back v seq off r [] h
  rw [List.append_nil] at f1 f2
  rw [f1, f2] at h2
  unfold len at hn
  omega
/-- Two records compared field by field. -/
def same (a b : Rec) : Bool := decide (a.kind = b.kind) && (decide (a.exp = b.exp) && (decide (a.key = b.key) && decide (a.val = b.val)))
theorem same_iff (a b : Rec) : same a b = true ↔ a = b := by
  obtain ⟨a1, a2, a3, a4⟩ := a
  obtain ⟨b1, b2, b3, b4⟩ := b
  simp only [same, Bool.and_eq_true, decide_eq_true_eq, Rec.mk.injEq]
  constructor
  · rintro ⟨h1, h2, h3, h4⟩; exact ⟨h1, h3, h4, h2⟩
  · rintro ⟨h1, h2, h3, h4⟩; exact ⟨h1, h4, h2, h3⟩
theorem same_self (a : Rec) : same a a = true := (same_iff a a).2 rfl
theorem apart (v seq off : Int) (a b : Rec) (ha : check v a = 0) (hb : check v b = 0) : decide (enc v seq off a = enc v seq off b) = same a b := by
  by_cases h : a = b
  · subst h
    rw [same_self, decide_eq_true rfl]
  · have h1 : same a b = false := by
      cases hs : same a b with
      | false => rfl
      | true => exact absurd ((same_iff a b).1 hs) h
    rw [h1]
    exact decide_eq_false fun e => h (inj v seq off a b ha hb e)
end Go.Proofs.YtjfgnojmdbfnmaaDoor.Rc
