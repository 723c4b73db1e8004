/-
  Plain mathematics of superblocks: when a layout is well-formed, when a superblock is valid, its bytes, what is read back. Nothing of the program.
-/
import Derived.Test.YtjfgnojmdbfnmaaDoorHdMath
namespace Go.Proofs.YtjfgnojmdbfnmaaDoor
namespace Sb
open Wire
/-- A layout. -/
structure L where
  id : Int
  ver : Int
  rs : Int
  reg : Int
def L0 : L := ⟨0, 0, 0, 0⟩
def sameL (a b : L) : Bool := a.id == b.id && (a.ver == b.ver && (a.rs == b.rs && a.reg == b.reg))
theorem sameL_iff (a b : L) : sameL a b = true ↔ a = b := by
  obtain ⟨a0, a1, a2, a3⟩ := a
  obtain ⟨b0, b1, b2, b3⟩ := b
  unfold sameL
  simp only [Bool.and_eq_true, beq_iff_eq, L.mk.injEq]
theorem sameL_self (a : L) : sameL a a = true := (sameL_iff a a).2 rfl
instance : DecidableEq L := fun a b => decidable_of_iff _ (sameL_iff a b)
theorem sameL_decide (a b : L) : sameL a b = decide (a = b) := by
  cases h : sameL a b with
  | true => exact (decide_eq_true ((sameL_iff a b).1 h)).symm
  | false => exact (decide_eq_false (fun e => by rw [(sameL_iff a b).2 e] at h; cases h)).symm
/-- A superblock. -/
structure S where
  gen : Int
  phase : Int
  mig : Int
  tail : Int
  now : Int
  t : L
  h : L
  f : List L
def S0 : S := ⟨0, 0, 0, 0, 0, L0, L0, []⟩
/-- The sizes of regions that there are. -/
def pw (n : Int) : Prop := n = 2 ∨ n = 4 ∨ n = 8 ∨ n = 16 ∨ n = 32 ∨ n = 64 ∨ n = 128 ∨ n = 256 ∨ n = 512 ∨ n = 1024 ∨ n = 2048
instance (n : Int) : Decidable (pw n) := by unfold pw; infer_instance
/-- The k with 2^k = n, 0 if there is none. -/
def ex (n : Int) : Nat := if n = 2 then 1 else if n = 4 then 2 else if n = 8 then 3 else if n = 16 then 4 else if n = 32 then 5 else if n = 64 then 6 else if n = 128 then 7 else if n = 256 then 8 else if n = 512 then 9 else if n = 1024 then 10 else if n = 2048 then 11 else 0
theorem pw_ex {n : Int} (h : pw n) : 1 ≤ ex n ∧ ex n ≤ 11 ∧ n = 2 ^ ex n := by
  unfold pw at h
  rcases h with rfl | rfl | rfl | rfl | rfl | rfl | rfl | rfl | rfl | rfl | rfl <;> decide
theorem pw_le {n : Int} (h : pw n) : 2 ≤ n ∧ n ≤ 2048 := by
  unfold pw at h; omega
theorem ex_le (n : Int) : ex n ≤ 11 := by
  unfold ex; repeat' split
  all_goals omega
/-- Is the layout well-formed? -/
def form (l : L) : Prop := (1 ≤ l.id ∧ l.id ≤ 4294967295) ∧ (1 ≤ l.ver ∧ l.ver ≤ 2) ∧ pw l.rs ∧ (4 ≤ l.reg ∧ l.reg ≤ 16)
instance (l : L) : Decidable (form l) := by unfold form; infer_instance
def nums (s : S) : Prop := (1 ≤ s.gen ∧ s.gen ≤ 1099511627775) ∧ (0 ≤ s.mig ∧ s.mig ≤ 4294967295) ∧ (0 ≤ s.tail ∧ s.tail ≤ 281474976710655) ∧ (0 ≤ s.now ∧ s.now ≤ 549755813888) ∧ form s.t
instance (s : S) : Decidable (nums s) := by unfold nums; infer_instance
/-- Does it belong to a migration that begins at Home? -/
def home (s : S) : Prop := s.mig ≠ 0 ∧ form s.h ∧ 0 < s.f.length ∧ s.f.getD 0 L0 = s.h ∧ s.t.id ≠ s.h.id
instance (s : S) : Decidable (home s) := by unfold home; infer_instance
/-- Does it come back from the layout l? -/
def back (s : S) (l : L) : Prop := s.t = ⟨s.t.id, s.h.ver, s.h.rs, s.h.reg⟩ ∧ form l ∧ l.id ≠ s.h.id ∧ l.id ≠ s.t.id
instance (s : S) (l : L) : Decidable (back s l) := by unfold back; infer_instance
def suits (s : S) : Prop := (s.phase = 1 ∧ s.h = L0 ∧ s.f.length = 0) ∨ (s.phase = 2 ∧ home s ∧ s.f.length = 1) ∨ (s.phase = 3 ∧ home s ∧ s.f.length = 2 ∧ back s (s.f.getD 1 L0))
instance (s : S) : Decidable (suits s) := by unfold suits; infer_instance
/-- Is the superblock valid? -/
def valid (s : S) : Prop := nums s ∧ suits s
instance (s : S) : Decidable (valid s) := by unfold valid; infer_instance
theorem valid_f {s : S} (hv : valid s) : (s.f = [] ∧ s.h = L0 ∧ s.phase = 1) ∨ (s.f = [s.h] ∧ form s.h ∧ s.phase = 2) ∨ (∃ g, s.f = [s.h, g] ∧ form s.h ∧ form g ∧ s.phase = 3) := by
  obtain ⟨-, h⟩ := hv
  rcases h with ⟨hp, h0, hl⟩ | ⟨hp, ⟨-, hf, -, h0, -⟩, hl⟩ | ⟨hp, ⟨-, hf, -, h0, -⟩, hl, ⟨-, hg, -⟩⟩
  · exact .inl ⟨List.eq_nil_of_length_eq_zero hl, h0, hp⟩
  · match hh : s.f, hl with
    | [a], _ =>
      rw [hh] at h0
      simp at h0
      exact .inr (.inl ⟨by rw [h0], hf, hp⟩)
  · match hh : s.f, hl with
    | [a, b], _ =>
      rw [hh] at h0 hg
      simp at h0 hg
      exact .inr (.inr ⟨b, by rw [h0], hf, hg, hp⟩)
/-- The bytes of a layout. -/
def lay (l : L) : List Nat := be 4 l.id.toNat ++ (be 1 l.ver.toNat ++ (be 1 (ex l.rs) ++ be 1 l.reg.toNat))
theorem lay_length (l : L) : (lay l).length = 7 := by simp [lay, be_length]
theorem lay_lt (l : L) : ∀ x ∈ lay l, x < 256 := by
  intro x hx
  unfold lay at hx
  rcases List.mem_append.1 hx with h | hx
  · exact be_lt _ _ x h
  rcases List.mem_append.1 hx with h | hx
  · exact be_lt _ _ x h
  rcases List.mem_append.1 hx with h | hx
  · exact be_lt _ _ x h
  exact be_lt _ _ x hx
/-- The second foreign layout, where there is one. -/
def more (s : S) : List Nat := if s.f.length = 2 then lay (s.f.getD 1 L0) else []
theorem more_lt (s : S) : ∀ x ∈ more s, x < 256 := by
  intro x hx
  unfold more at hx
  split at hx
  · exact lay_lt _ x hx
  · cases hx
theorem more_length (s : S) : (more s).length ≤ 7 := by
  unfold more
  split
  · rw [lay_length]; exact Nat.le_refl _
  · exact Nat.zero_le _
def body (s : S) : List Nat := be 5 s.gen.toNat ++ (be 1 s.phase.toNat ++ (be 4 s.mig.toNat ++ (be 6 s.tail.toNat ++ (be 5 s.now.toNat ++ (lay s.t ++ (lay s.h ++ (be 1 s.f.length ++ more s)))))))
theorem body_length (s : S) : (body s).length = 36 + (more s).length := by
  simp only [body, List.length_append, be_length, lay_length]; omega
theorem body_le (s : S) : (body s).length ≤ 43 := by rw [body_length]; have := more_length s; omega
theorem body_lt (s : S) : ∀ x ∈ body s, x < 256 := by
  intro x hx
  unfold body at hx
  rcases List.mem_append.1 hx with h | hx
  · exact be_lt _ _ x h
  rcases List.mem_append.1 hx with h | hx
  · exact be_lt _ _ x h
  rcases List.mem_append.1 hx with h | hx
  · exact be_lt _ _ x h
  rcases List.mem_append.1 hx with h | hx
  · exact be_lt _ _ x h
  rcases List.mem_append.1 hx with h | hx
  · exact be_lt _ _ x h
  rcases List.mem_append.1 hx with h | hx
  · exact lay_lt _ x h
  rcases List.mem_append.1 hx with h | hx
  · exact lay_lt _ x h
  rcases List.mem_append.1 hx with h | hx
  · exact be_lt _ _ x h
  exact more_lt _ x hx
/-- The bytes of a superblock's sector. -/
def enc (x : Int) (s : S) : List Nat := Fr.enc 3 0 x (body s)
theorem enc_length (x : Int) (s : S) : (enc x s).length = 64 := Fr.enc_length _ _ _ _ (by have := body_le s; omega)
theorem enc_lt (x : Int) (s : S) : ∀ y ∈ enc x s, y < 256 := Fr.enc_lt _ _ _ _ (by decide) (body_lt s)
/-- What is read at the beginning of a payload, by a reader R of layouts and c of the number of foreign ones. -/
def rd (R : List Nat → L) (c : Nat → Nat) (p : List Nat) : S :=
  ⟨num (p.take 5), num ((p.drop 5).take 1), num ((p.drop 6).take 4), num ((p.drop 10).take 6), num ((p.drop 16).take 5), R (p.drop 21), R (p.drop 28), [R (p.drop 28), R (p.drop 36)].take (c (num ((p.drop 35).take 1)))⟩
/-- A reader that reads what was written. -/
def Reads (R : List Nat → L) : Prop := ∀ l q, form l ∨ l = L0 → R (lay l ++ q) = l
def Counts (c : Nat → Nat) : Prop := c 0 = 0 ∧ c 1 = 1 ∧ c 2 = 2
theorem tk (k n : Nat) (r : List Nat) : (be k n ++ r).take k = be k n := List.take_left' (be_length k n)
theorem dp (j k n : Nat) (r : List Nat) : (be k n ++ r).drop (k + j) = r.drop j := by
  rw [← List.drop_drop, List.drop_left' (be_length k n)]
theorem dpl (j : Nat) (l : L) (r : List Nat) : (lay l ++ r).drop (7 + j) = r.drop j := by
  rw [← List.drop_drop, List.drop_left' (lay_length l)]
theorem rd_body {R : List Nat → L} {c : Nat → Nat} (hR : Reads R) (hc : Counts c) (s : S) (q : List Nat) (hv : valid s) : rd R c (body s ++ q) = s := by
  have hf := valid_f hv
  obtain ⟨⟨h1, h2, h3, h4, h5⟩, -⟩ := hv
  have e : body s ++ q = be 5 s.gen.toNat ++ (be 1 s.phase.toNat ++ (be 4 s.mig.toNat ++ (be 6 s.tail.toNat ++ (be 5 s.now.toNat ++ (lay s.t ++ (lay s.h ++ (be 1 s.f.length ++ (more s ++ q)))))))) := by simp [body]
  have p1 : (256 : Nat) ^ 1 = 256 := rfl
  have p4 : (256 : Nat) ^ 4 = 4294967296 := rfl
  have p5 : (256 : Nat) ^ 5 = 1099511627776 := rfl
  have p6 : (256 : Nat) ^ 6 = 281474976710656 := rfl
  have a0 : (body s ++ q).take 5 = be 5 s.gen.toNat := by rw [e]; exact tk 5 _ _
  have a1 : ((body s ++ q).drop 5).take 1 = be 1 s.phase.toNat := by rw [e, dp 0 5, List.drop_zero]; exact tk 1 _ _
  have a2 : ((body s ++ q).drop 6).take 4 = be 4 s.mig.toNat := by rw [e, dp 1 5, dp 0 1, List.drop_zero]; exact tk 4 _ _
  have a3 : ((body s ++ q).drop 10).take 6 = be 6 s.tail.toNat := by rw [e, dp 5 5, dp 4 1, dp 0 4, List.drop_zero]; exact tk 6 _ _
  have a4 : ((body s ++ q).drop 16).take 5 = be 5 s.now.toNat := by rw [e, dp 11 5, dp 10 1, dp 6 4, dp 0 6, List.drop_zero]; exact tk 5 _ _
  have a5 : (body s ++ q).drop 21 = lay s.t ++ (lay s.h ++ (be 1 s.f.length ++ (more s ++ q))) := by rw [e, dp 16 5, dp 15 1, dp 11 4, dp 5 6, dp 0 5, List.drop_zero]
  have a6 : (body s ++ q).drop 28 = lay s.h ++ (be 1 s.f.length ++ (more s ++ q)) := by rw [← List.drop_drop (i := 7) (j := 21), a5, dpl 0, List.drop_zero]
  have a7 : ((body s ++ q).drop 35).take 1 = be 1 s.f.length := by rw [← List.drop_drop (i := 7) (j := 28), a6, dpl 0, List.drop_zero]; exact tk 1 _ _
  have a8 : (body s ++ q).drop 36 = more s ++ q := by rw [← List.drop_drop (i := 8) (j := 28), a6, dpl 1, dp 0 1, List.drop_zero]
  have ht : R ((body s ++ q).drop 21) = s.t := by rw [a5]; exact hR _ _ (.inl h5)
  have hh : R ((body s ++ q).drop 28) = s.h := by
    rw [a6]
    refine hR _ _ ?_
    rcases hf with ⟨-, h, -⟩ | ⟨-, h, -⟩ | ⟨g, -, h, -⟩
    · exact .inr h
    · exact .inl h
    · exact .inl h
  have hfl : s.f.length % 256 = s.f.length := by
    rcases hf with ⟨h, -⟩ | ⟨h, -⟩ | ⟨g, h, -⟩ <;> rw [h] <;> rfl
  have hph : 0 ≤ s.phase ∧ s.phase < 256 := by
    rcases hf with ⟨-, -, h⟩ | ⟨-, -, h⟩ | ⟨g, -, -, -, h⟩ <;> rw [h] <;> decide
  have hfo : [s.h, R ((body s ++ q).drop 36)].take (c s.f.length) = s.f := by
    rcases hf with ⟨h, -⟩ | ⟨h, -⟩ | ⟨g, h, -, hg, -⟩
    · rw [h]; show List.take (c 0) _ = _; rw [hc.1]; rfl
    · rw [h]; show List.take (c 1) _ = _; rw [hc.2.1]; rfl
    · have hm : more s = lay g := by unfold more; rw [h]; rfl
      rw [a8, hm, hR g q (.inl hg), h]
      show List.take (c 2) _ = _
      rw [hc.2.2]; rfl
  unfold rd
  rw [a0, a1, a2, a3, a4, a7, ht, hh, num_be, num_be, num_be, num_be, num_be, num_be, p1, p4, p5, p6, hfl, hfo]
  obtain ⟨gen, phase, mig, tail, now, t, h, f⟩ := s
  simp only at h1 h2 h3 h4 hph ⊢
  congr 1 <;> omega
/-- Is b the sector of the valid superblock s? -/
def good (x : Int) (b : List Nat) (s : S) : Prop := Fr.may 3 0 x ∧ valid s ∧ enc x s = b
theorem sub_enc (x : Int) (s : S) : Rc.sub (enc x s) 1 59 = body s ++ List.replicate (59 - (body s).length) 0 := by
  unfold enc
  rw [Fr.sub_enc _ _ _ _ (by have := body_le s; omega)]
theorem rd_enc {R : List Nat → L} {c : Nat → Nat} (hR : Reads R) (hc : Counts c) (x : Int) (s : S) (hv : valid s) : rd R c (Rc.sub (enc x s) 1 59) = s := by rw [sub_enc, rd_body hR hc s _ hv]
theorem good_fr {x : Int} {b : List Nat} {s : S} (h : good x b s) : Fr.good 3 0 x b := by
  obtain ⟨hm, hv, rfl⟩ := h
  exact Fr.round 3 0 x (body s) hm (by have := body_le s; omega)
theorem good_rd {R : List Nat → L} {c : Nat → Nat} (hR : Reads R) (hc : Counts c) {x : Int} {b : List Nat} {s : S} (h : good x b s) : rd R c (Rc.sub b 1 59) = s := by
  obtain ⟨hm, hv, rfl⟩ := h
  exact rd_enc hR hc x s hv
/-- What a decoder finds that reads, and looks whether the bytes are those of what it read. -/
theorem good_iff {R : List Nat → L} {c : Nat → Nat} (hR : Reads R) (hc : Counts c) (x : Int) (b : List Nat) :
    (∃ s, good x b s) ↔ Fr.good 3 0 x b ∧ valid (rd R c (Rc.sub b 1 59)) ∧ enc x (rd R c (Rc.sub b 1 59)) = b := by
  constructor
  · rintro ⟨s, h⟩
    rw [good_rd hR hc h]
    exact ⟨good_fr h, h.2.1, h.2.2⟩
  · rintro ⟨h1, h2, h3⟩
    exact ⟨_, h1.1, h2, h3⟩
/-- The reader of the program. -/
def p64 (k : Nat) : Int := if k = 0 then 0 else ((2 : Int) ^ min k 64 + 9223372036854775808) % 18446744073709551616 - 9223372036854775808
def rl (l : List Nat) : L := ⟨num (l.take 4), num ((l.drop 4).take 1), p64 (num ((l.drop 5).take 1)), num ((l.drop 6).take 1)⟩
def cnt (n : Nat) : Nat := if n = 1 then 1 else if n = 2 then 2 else 0
theorem counts : Counts cnt := ⟨rfl, rfl, rfl⟩
theorem lay_parts (l : L) (q : List Nat) (h : form l ∨ l = L0) : num ((lay l ++ q).take 4) = l.id.toNat ∧ num (((lay l ++ q).drop 4).take 1) = l.ver.toNat ∧ num (((lay l ++ q).drop 5).take 1) = ex l.rs ∧ num (((lay l ++ q).drop 6).take 1) = l.reg.toNat := by
  have e : lay l ++ q = be 4 l.id.toNat ++ (be 1 l.ver.toNat ++ (be 1 (ex l.rs) ++ (be 1 l.reg.toNat ++ q))) := by simp [lay]
  have p1 : (256 : Nat) ^ 1 = 256 := rfl
  have p4 : (256 : Nat) ^ 4 = 4294967296 := rfl
  have a0 : (lay l ++ q).take 4 = be 4 l.id.toNat := by rw [e]; exact tk 4 _ _
  have a1 : ((lay l ++ q).drop 4).take 1 = be 1 l.ver.toNat := by rw [e, dp 0 4, List.drop_zero]; exact tk 1 _ _
  have a2 : ((lay l ++ q).drop 5).take 1 = be 1 (ex l.rs) := by rw [e, dp 1 4, dp 0 1, List.drop_zero]; exact tk 1 _ _
  have a3 : ((lay l ++ q).drop 6).take 1 = be 1 l.reg.toNat := by rw [e, dp 2 4, dp 1 1, dp 0 1, List.drop_zero]; exact tk 1 _ _
  have hx := ex_le l.rs
  have hb : l.id.toNat < 4294967296 ∧ l.ver.toNat < 256 ∧ l.reg.toNat < 256 := by
    rcases h with ⟨h1, h2, -, h4⟩ | rfl
    · omega
    · decide
  rw [a0, a1, a2, a3, num_be, num_be, num_be, num_be, p1, p4]
  refine ⟨?_, ?_, ?_, ?_⟩ <;> omega
theorem form_nat {l : L} (h : form l ∨ l = L0) : 0 ≤ l.id ∧ 0 ≤ l.ver ∧ 0 ≤ l.reg := by
  rcases h with ⟨h1, h2, -, h4⟩ | rfl
  · omega
  · decide
theorem p64_ex {l : L} (h : form l ∨ l = L0) : p64 (ex l.rs) = l.rs := by
  rcases h with ⟨-, -, h3, -⟩ | rfl
  · unfold pw at h3
    obtain ⟨i, v, r, g⟩ := l
    simp only at h3 ⊢
    rcases h3 with rfl | rfl | rfl | rfl | rfl | rfl | rfl | rfl | rfl | rfl | rfl <;> decide
  · decide
theorem rl_reads : Reads rl := by
  intro l q h
  obtain ⟨h0, h1, h2, h3⟩ := lay_parts l q h
  obtain ⟨n0, n1, n2⟩ := form_nat h
  unfold rl
  rw [h0, h1, h2, h3, p64_ex h]
  obtain ⟨i, v, r, g⟩ := l
  simp only at n0 n1 n2 ⊢
  congr 1 <;> omega
/-- The reader of the definition. -/
def rl2 (l : List Nat) : L := ⟨num (l.take 4), num ((l.drop 4).take 1), if (num (l.take 4) = 0 ∧ num ((l.drop 4).take 1) = 0 ∧ num ((l.drop 6).take 1) = 0) ∧ num ((l.drop 5).take 1) = 0 then 0 else 2 ^ min (num ((l.drop 5).take 1)) 12, num ((l.drop 6).take 1)⟩
def cnt2 (n : Nat) : Nat := min n 2
theorem counts2 : Counts cnt2 := ⟨rfl, rfl, rfl⟩
theorem rl2_reads : Reads rl2 := by
  intro l q h
  obtain ⟨h0, h1, h2, h3⟩ := lay_parts l q h
  obtain ⟨n0, n1, n2⟩ := form_nat h
  unfold rl2
  rw [h0, h1, h2, h3]
  have key : (if (l.id.toNat = 0 ∧ l.ver.toNat = 0 ∧ l.reg.toNat = 0) ∧ ex l.rs = 0 then (0 : Int) else 2 ^ min (ex l.rs) 12) = l.rs := by
    rcases h with ⟨h1, h2, h3, h4⟩ | rfl
    · obtain ⟨x1, x2, x3⟩ := pw_ex h3
      rw [if_neg (by omega), Nat.min_eq_left (by omega)]
      exact x3.symm
    · decide
  rw [key]
  obtain ⟨i, v, r, g⟩ := l
  simp only at n0 n1 n2 ⊢
  congr 1 <;> omega
theorem apart (x : Int) (a b : S) (ha : valid a) (hb : valid b) : enc x a = enc x b ↔ a = b := by
  constructor
  · intro h
    rw [← rd_enc rl_reads counts x a ha, h, rd_enc rl_reads counts x b hb]
  · rintro rfl; rfl
/-- The error of Encode. -/
def err (s : S) (x : Int) : Int := if valid s then (if 0 ≤ x ∧ x < 1048576 then 0 else 2) else 4
theorem err_fr (s : S) (x : Int) (hv : valid s) : err s x = if Fr.may 3 0 x then 0 else 2 := by
  unfold err
  rw [if_pos hv]
  have : (0 ≤ x ∧ x < 1048576) ↔ Fr.may 3 0 x := by unfold Fr.may; omega
  by_cases h : Fr.may 3 0 x
  · rw [if_pos h, if_pos (this.2 h)]
  · rw [if_neg h, if_neg (fun k => h (this.1 k))]
/-- Are they the same? -/
def same (a b : S) : Bool := a.gen == b.gen && (a.phase == b.phase && (a.mig == b.mig && (a.tail == b.tail && (a.now == b.now && (sameL a.t b.t && (sameL a.h b.h && decide (a.f = b.f)))))))
theorem same_iff (a b : S) : same a b = true ↔ a = b := by
  obtain ⟨a0, a1, a2, a3, a4, a5, a6, a7⟩ := a
  obtain ⟨b0, b1, b2, b3, b4, b5, b6, b7⟩ := b
  unfold same
  simp only [Bool.and_eq_true, beq_iff_eq, sameL_iff, decide_eq_true_eq, S.mk.injEq]
theorem same_self (a : S) : same a a = true := (same_iff a a).2 rfl
end Sb
end Go.Proofs.YtjfgnojmdbfnmaaDoor
