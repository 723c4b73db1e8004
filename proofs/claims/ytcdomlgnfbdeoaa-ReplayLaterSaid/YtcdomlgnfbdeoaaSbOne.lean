/-
  SbMath: Plain mathematics of superblocks: when a layout is well-formed, when a superblock is valid, its bytes, what is read back. Nothing of the program.
  SbBits: The walks of bits.OnesCount and bits.Len at the sizes of regions, of exponent, power and the definition's log.
  SbWords: Words on layouts and superblocks as values: their cells, foreign layouts read through a slice, two layouts compared.
  SbLog: The walk of the definition's log, and of the two that tell whether a layout is well-formed.
  SbForm: The walks of the two functions that tell whether a layout is well-formed.
  SbEqual: The walks of slices.Equal at layouts, of superblock.Equal and of the reference's Eq.
  SbEq: The walk of the reference's Eq of superblocks.
  RegionHeldBy: A region that draws its order, walked by hand under a condition on the world: take, skip (its guard says no), step, done.
  SbBack: The walk of superblock.returnsFrom.
  SbTake: The walks of superblock.parse's closure and of superblock.takeLayout.
  SbRead: The walk of the reference's Read of layouts.
-/
import Derived.Test.YtcdomlgnfbdeoaaFrame
import Derived.Deep.LoopGhost
import Derived.Deep.DeepCutAuto
import Derived.Deep.CutBlock
import Derived.BigQuiet
import Derived.OrdersHeld
import Derived.RegionTactic
import Derived.Deep.RegionHeld
section
namespace Go.Proofs.Ytcdomlgnfbdeoaa
namespace Sb
open Wire
/-- A layout. -/
structure L where
  id : Int
  ver : Int
  rs : Int
  reg : Int
def L0 : L := ⟨0, 0, 0, 0⟩
def sameL (a b : L) : Bool := a.id == b.id && (a.ver == b.ver && (a.rs == b.rs && a.reg == b.reg))
theorem sameL_iff (a b : L) : sameL a b = true ↔ a = b := by
  obtain ⟨a0, a1, a2, a3⟩ := a
  obtain ⟨b0, b1, b2, b3⟩ := b
  unfold sameL
  simp only [Bool.and_eq_true, beq_iff_eq, L.mk.injEq]
theorem sameL_self (a : L) : sameL a a = true := (sameL_iff a a).2 rfl
instance : DecidableEq L := fun a b => decidable_of_iff _ (sameL_iff a b)
theorem sameL_decide (a b : L) : sameL a b = decide (a = b) := by
  cases h : sameL a b with
  | true => exact (decide_eq_true ((sameL_iff a b).1 h)).symm
  | false => exact (decide_eq_false (fun e => by rw [(sameL_iff a b).2 e] at h; cases h)).symm
/-- A superblock. -/
structure S where
  gen : Int
  phase : Int
  mig : Int
  tail : Int
  now : Int
  t : L
  h : L
  f : List L
def S0 : S := ⟨0, 0, 0, 0, 0, L0, L0, []⟩
/-- The sizes of regions that there are. -/
def pw (n : Int) : Prop := n = 2 ∨ n = 4 ∨ n = 8 ∨ n = 16 ∨ n = 32 ∨ n = 64 ∨ n = 128 ∨ n = 256 ∨ n = 512 ∨ n = 1024 ∨ n = 2048
instance (n : Int) : Decidable (pw n) := by unfold pw; infer_instance
/-- The k with 2^k = n, 0 if there is none. -/
def ex (n : Int) : Nat := if n = 2 then 1 else if n = 4 then 2 else if n = 8 then 3 else if n = 16 then 4 else if n = 32 then 5 else if n = 64 then 6 else if n = 128 then 7 else if n = 256 then 8 else if n = 512 then 9 else if n = 1024 then 10 else if n = 2048 then 11 else 0
theorem pw_ex {n : Int} (h : pw n) : 1 ≤ ex n ∧ ex n ≤ 11 ∧ n = 2 ^ ex n := by
  unfold pw at h
  rcases h with rfl | rfl | rfl | rfl | rfl | rfl | rfl | rfl | rfl | rfl | rfl <;> decide
theorem pw_le {n : Int} (h : pw n) : 2 ≤ n ∧ n ≤ 2048 := by
  unfold pw at h; omega
theorem ex_le (n : Int) : ex n ≤ 11 := by
  unfold ex; repeat' split
  all_goals omega
/-- Is the layout well-formed? -/
def form (l : L) : Prop := (1 ≤ l.id ∧ l.id ≤ 4294967295) ∧ (1 ≤ l.ver ∧ l.ver ≤ 2) ∧ pw l.rs ∧ (4 ≤ l.reg ∧ l.reg ≤ 16)
instance (l : L) : Decidable (form l) := by unfold form; infer_instance
def nums (s : S) : Prop := (1 ≤ s.gen ∧ s.gen ≤ 1099511627775) ∧ (0 ≤ s.mig ∧ s.mig ≤ 4294967295) ∧ (0 ≤ s.tail ∧ s.tail ≤ 281474976710655) ∧ (0 ≤ s.now ∧ s.now ≤ 549755813888) ∧ form s.t
instance (s : S) : Decidable (nums s) := by unfold nums; infer_instance
/-- Does it belong to a migration that begins at Home? -/
def home (s : S) : Prop := s.mig ≠ 0 ∧ form s.h ∧ 0 < s.f.length ∧ s.f.getD 0 L0 = s.h ∧ s.t.id ≠ s.h.id
instance (s : S) : Decidable (home s) := by unfold home; infer_instance
/-- Does it come back from the layout l? -/
def back (s : S) (l : L) : Prop := s.t = ⟨s.t.id, s.h.ver, s.h.rs, s.h.reg⟩ ∧ form l ∧ l.id ≠ s.h.id ∧ l.id ≠ s.t.id
instance (s : S) (l : L) : Decidable (back s l) := by unfold back; infer_instance
def suits (s : S) : Prop := (s.phase = 1 ∧ s.h = L0 ∧ s.f.length = 0) ∨ (s.phase = 2 ∧ home s ∧ s.f.length = 1) ∨ (s.phase = 3 ∧ home s ∧ s.f.length = 2 ∧ back s (s.f.getD 1 L0))
instance (s : S) : Decidable (suits s) := by unfold suits; infer_instance
/-- Is the superblock valid? -/
def valid (s : S) : Prop := nums s ∧ suits s
instance (s : S) : Decidable (valid s) := by unfold valid; infer_instance
theorem valid_f {s : S} (hv : valid s) : (s.f = [] ∧ s.h = L0 ∧ s.phase = 1) ∨ (s.f = [s.h] ∧ form s.h ∧ s.phase = 2) ∨ (∃ g, s.f = [s.h, g] ∧ form s.h ∧ form g ∧ s.phase = 3) := by
  obtain ⟨-, h⟩ := hv
  rcases h with ⟨hp, h0, hl⟩ | ⟨hp, ⟨-, hf, -, h0, -⟩, hl⟩ | ⟨hp, ⟨-, hf, -, h0, -⟩, hl, ⟨-, hg, -⟩⟩
  · exact .inl ⟨List.eq_nil_of_length_eq_zero hl, h0, hp⟩
  · match hh : s.f, hl with
    | [a], _ =>
      rw [hh] at h0
      simp at h0
      exact .inr (.inl ⟨by rw [h0], hf, hp⟩)
  · match hh : s.f, hl with
    | [a, b], _ =>
      rw [hh] at h0 hg
      simp at h0 hg
      exact .inr (.inr ⟨b, by rw [h0], hf, hg, hp⟩)
/-- The bytes of a layout. -/
def lay (l : L) : List Nat := be 4 l.id.toNat ++ (be 1 l.ver.toNat ++ (be 1 (ex l.rs) ++ be 1 l.reg.toNat))
theorem lay_length (l : L) : (lay l).length = 7 := by simp [lay, be_length]
theorem lay_lt (l : L) : ∀ x ∈ lay l, x < 256 := by
  intro x hx
  unfold lay at hx
  rcases List.mem_append.1 hx with h | hx
  · exact be_lt _ _ x h
  rcases List.mem_append.1 hx with h | hx
  · exact be_lt _ _ x h
  rcases List.mem_append.1 hx with h | hx
  · exact be_lt _ _ x h
  exact be_lt _ _ x hx
/-- The second foreign layout, where there is one. -/
def more (s : S) : List Nat := if s.f.length = 2 then lay (s.f.getD 1 L0) else []
theorem more_lt (s : S) : ∀ x ∈ more s, x < 256 := by
  intro x hx
  unfold more at hx
  split at hx
  · exact lay_lt _ x hx
  · cases hx
theorem more_length (s : S) : (more s).length ≤ 7 := by
  unfold more
  split
  · rw [lay_length]; exact Nat.le_refl _
  · exact Nat.zero_le _
def body (s : S) : List Nat := be 5 s.gen.toNat ++ (be 1 s.phase.toNat ++ (be 4 s.mig.toNat ++ (be 6 s.tail.toNat ++ (be 5 s.now.toNat ++ (lay s.t ++ (lay s.h ++ (be 1 s.f.length ++ more s)))))))
theorem body_length (s : S) : (body s).length = 36 + (more s).length := by
  simp only [body, List.length_append, be_length, lay_length]; omega
theorem body_le (s : S) : (body s).length ≤ 43 := by rw [body_length]; have := more_length s; omega
theorem body_lt (s : S) : ∀ x ∈ body s, x < 256 := by
  intro x hx
  unfold body at hx
  rcases List.mem_append.1 hx with h | hx
  · exact be_lt _ _ x h
  rcases List.mem_append.1 hx with h | hx
  · exact be_lt _ _ x h
  rcases List.mem_append.1 hx with h | hx
  · exact be_lt _ _ x h
  rcases List.mem_append.1 hx with h | hx
  · exact be_lt _ _ x h
  rcases List.mem_append.1 hx with h | hx
  · exact be_lt _ _ x h
  rcases List.mem_append.1 hx with h | hx
  · exact lay_lt _ x h
  rcases List.mem_append.1 hx with h | hx
  · exact lay_lt _ x h
  rcases List.mem_append.1 hx with h | hx
  · exact be_lt _ _ x h
  exact more_lt _ x hx
/-- The bytes of a superblock's sector. -/
def enc (x : Int) (s : S) : List Nat := Fr.enc 3 0 x (body s)
theorem enc_length (x : Int) (s : S) : (enc x s).length = 64 := Fr.enc_length _ _ _ _ (by have := body_le s; omega)
theorem enc_lt (x : Int) (s : S) : ∀ y ∈ enc x s, y < 256 := Fr.enc_lt _ _ _ _ (by decide) (body_lt s)
/-- What is read at the beginning of a payload, by a reader R of layouts and c of the number of foreign ones. -/
def rd (R : List Nat → L) (c : Nat → Nat) (p : List Nat) : S :=
  ⟨num (p.take 5), num ((p.drop 5).take 1), num ((p.drop 6).take 4), num ((p.drop 10).take 6), num ((p.drop 16).take 5), R (p.drop 21), R (p.drop 28), [R (p.drop 28), R (p.drop 36)].take (c (num ((p.drop 35).take 1)))⟩
/-- A reader that reads what was written. -/
def Reads (R : List Nat → L) : Prop := ∀ l q, form l ∨ l = L0 → R (lay l ++ q) = l
def Counts (c : Nat → Nat) : Prop := c 0 = 0 ∧ c 1 = 1 ∧ c 2 = 2
theorem tk (k n : Nat) (r : List Nat) : (be k n ++ r).take k = be k n := List.take_left' (be_length k n)
theorem dp (j k n : Nat) (r : List Nat) : (be k n ++ r).drop (k + j) = r.drop j := by
  rw [← List.drop_drop, List.drop_left' (be_length k n)]
theorem dpl (j : Nat) (l : L) (r : List Nat) : (lay l ++ r).drop (7 + j) = r.drop j := by
  rw [← List.drop_drop, List.drop_left' (lay_length l)]
theorem rd_body {R : List Nat → L} {c : Nat → Nat} (hR : Reads R) (hc : Counts c) (s : S) (q : List Nat) (hv : valid s) : rd R c (body s ++ q) = s := by
  have hf := valid_f hv
  obtain ⟨⟨h1, h2, h3, h4, h5⟩, -⟩ := hv
  have e : body s ++ q = be 5 s.gen.toNat ++ (be 1 s.phase.toNat ++ (be 4 s.mig.toNat ++ (be 6 s.tail.toNat ++ (be 5 s.now.toNat ++ (lay s.t ++ (lay s.h ++ (be 1 s.f.length ++ (more s ++ q)))))))) := by simp [body]
  have p1 : (256 : Nat) ^ 1 = 256 := rfl
  have p4 : (256 : Nat) ^ 4 = 4294967296 := rfl
  have p5 : (256 : Nat) ^ 5 = 1099511627776 := rfl
  have p6 : (256 : Nat) ^ 6 = 281474976710656 := rfl
  have a0 : (body s ++ q).take 5 = be 5 s.gen.toNat := by rw [e]; exact tk 5 _ _
  have a1 : ((body s ++ q).drop 5).take 1 = be 1 s.phase.toNat := by rw [e, dp 0 5, List.drop_zero]; exact tk 1 _ _
  have a2 : ((body s ++ q).drop 6).take 4 = be 4 s.mig.toNat := by rw [e, dp 1 5, dp 0 1, List.drop_zero]; exact tk 4 _ _
  have a3 : ((body s ++ q).drop 10).take 6 = be 6 s.tail.toNat := by rw [e, dp 5 5, dp 4 1, dp 0 4, List.drop_zero]; exact tk 6 _ _
  have a4 : ((body s ++ q).drop 16).take 5 = be 5 s.now.toNat := by rw [e, dp 11 5, dp 10 1, dp 6 4, dp 0 6, List.drop_zero]; exact tk 5 _ _
  have a5 : (body s ++ q).drop 21 = lay s.t ++ (lay s.h ++ (be 1 s.f.length ++ (more s ++ q))) := by rw [e, dp 16 5, dp 15 1, dp 11 4, dp 5 6, dp 0 5, List.drop_zero]
  have a6 : (body s ++ q).drop 28 = lay s.h ++ (be 1 s.f.length ++ (more s ++ q)) := by rw [← List.drop_drop (i := 7) (j := 21), a5, dpl 0, List.drop_zero]
  have a7 : ((body s ++ q).drop 35).take 1 = be 1 s.f.length := by rw [← List.drop_drop (i := 7) (j := 28), a6, dpl 0, List.drop_zero]; exact tk 1 _ _
  have a8 : (body s ++ q).drop 36 = more s ++ q := by rw [← List.drop_drop (i := 8) (j := 28), a6, dpl 1, dp 0 1, List.drop_zero]
  have ht : R ((body s ++ q).drop 21) = s.t := by rw [a5]; exact hR _ _ (.inl h5)
  have hh : R ((body s ++ q).drop 28) = s.h := by
    rw [a6]
    refine hR _ _ ?_
    rcases hf with ⟨-, h, -⟩ | ⟨-, h, -⟩ | ⟨g, -, h, -⟩
    · exact .inr h
    · exact .inl h
    · exact .inl h
  have hfl : s.f.length % 256 = s.f.length := by
    rcases hf with ⟨h, -⟩ | ⟨h, -⟩ | ⟨g, h, -⟩ <;> rw [h] <;> rfl
  have hph : 0 ≤ s.phase ∧ s.phase < 256 := by
    rcases hf with ⟨-, -, h⟩ | ⟨-, -, h⟩ | ⟨g, -, -, -, h⟩ <;> rw [h] <;> decide
  have hfo : [s.h, R ((body s ++ q).drop 36)].take (c s.f.length) = s.f := by
    rcases hf with ⟨h, -⟩ | ⟨h, -⟩ | ⟨g, h, -, hg, -⟩
    · rw [h]; show List.take (c 0) _ = _; rw [hc.1]; rfl
    · rw [h]; show List.take (c 1) _ = _; rw [hc.2.1]; rfl
    · have hm : more s = lay g := by unfold more; rw [h]; rfl
      rw [a8, hm, hR g q (.inl hg), h]
      show List.take (c 2) _ = _
      rw [hc.2.2]; rfl
  unfold rd
  rw [a0, a1, a2, a3, a4, a7, ht, hh, num_be, num_be, num_be, num_be, num_be, num_be, p1, p4, p5, p6, hfl, hfo]
  obtain ⟨gen, phase, mig, tail, now, t, h, f⟩ := s
  simp only at h1 h2 h3 h4 hph ⊢
  congr 1 <;> omega
/-- Is b the sector of the valid superblock s? -/
def good (x : Int) (b : List Nat) (s : S) : Prop := Fr.may 3 0 x ∧ valid s ∧ enc x s = b
theorem sub_enc (x : Int) (s : S) : Rc.sub (enc x s) 1 59 = body s ++ List.replicate (59 - (body s).length) 0 := by
  unfold enc
  rw [Fr.sub_enc _ _ _ _ (by have := body_le s; omega)]
theorem rd_enc {R : List Nat → L} {c : Nat → Nat} (hR : Reads R) (hc : Counts c) (x : Int) (s : S) (hv : valid s) : rd R c (Rc.sub (enc x s) 1 59) = s := by rw [sub_enc, rd_body hR hc s _ hv]
theorem good_fr {x : Int} {b : List Nat} {s : S} (h : good x b s) : Fr.good 3 0 x b := by
  obtain ⟨hm, hv, rfl⟩ := h
  exact Fr.round 3 0 x (body s) hm (by have := body_le s; omega)
theorem good_rd {R : List Nat → L} {c : Nat → Nat} (hR : Reads R) (hc : Counts c) {x : Int} {b : List Nat} {s : S} (h : good x b s) : rd R c (Rc.sub b 1 59) = s := by
  obtain ⟨hm, hv, rfl⟩ := h
  exact rd_enc hR hc x s hv
/-- What a decoder finds that reads, and looks whether the bytes are those of what it read. -/
theorem good_iff {R : List Nat → L} {c : Nat → Nat} (hR : Reads R) (hc : Counts c) (x : Int) (b : List Nat) :
    (∃ s, good x b s) ↔ Fr.good 3 0 x b ∧ valid (rd R c (Rc.sub b 1 59)) ∧ enc x (rd R c (Rc.sub b 1 59)) = b := by
  constructor
  · rintro ⟨s, h⟩
    rw [good_rd hR hc h]
    exact ⟨good_fr h, h.2.1, h.2.2⟩
  · rintro ⟨h1, h2, h3⟩
    exact ⟨_, h1.1, h2, h3⟩
/-- The reader of the program. -/
def p64 (k : Nat) : Int := if k = 0 then 0 else ((2 : Int) ^ min k 64 + 9223372036854775808) % 18446744073709551616 - 9223372036854775808
def rl (l : List Nat) : L := ⟨num (l.take 4), num ((l.drop 4).take 1), p64 (num ((l.drop 5).take 1)), num ((l.drop 6).take 1)⟩
def cnt (n : Nat) : Nat := if n = 1 then 1 else if n = 2 then 2 else 0
theorem counts : Counts cnt := ⟨rfl, rfl, rfl⟩
theorem lay_parts (l : L) (q : List Nat) (h : form l ∨ l = L0) : num ((lay l ++ q).take 4) = l.id.toNat ∧ num (((lay l ++ q).drop 4).take 1) = l.ver.toNat ∧ num (((lay l ++ q).drop 5).take 1) = ex l.rs ∧ num (((lay l ++ q).drop 6).take 1) = l.reg.toNat := by
  have e : lay l ++ q = be 4 l.id.toNat ++ (be 1 l.ver.toNat ++ (be 1 (ex l.rs) ++ (be 1 l.reg.toNat ++ q))) := by simp [lay]
  have p1 : (256 : Nat) ^ 1 = 256 := rfl
  have p4 : (256 : Nat) ^ 4 = 4294967296 := rfl
  have a0 : (lay l ++ q).take 4 = be 4 l.id.toNat := by rw [e]; exact tk 4 _ _
  have a1 : ((lay l ++ q).drop 4).take 1 = be 1 l.ver.toNat := by rw [e, dp 0 4, List.drop_zero]; exact tk 1 _ _
  have a2 : ((lay l ++ q).drop 5).take 1 = be 1 (ex l.rs) := by rw [e, dp 1 4, dp 0 1, List.drop_zero]; exact tk 1 _ _
  have a3 : ((lay l ++ q).drop 6).take 1 = be 1 l.reg.toNat := by rw [e, dp 2 4, dp 1 1, dp 0 1, List.drop_zero]; exact tk 1 _ _
  have hx := ex_le l.rs
  have hb : l.id.toNat < 4294967296 ∧ l.ver.toNat < 256 ∧ l.reg.toNat < 256 := by
    rcases h with ⟨h1, h2, -, h4⟩ | rfl
    · omega
    · decide
  rw [a0, a1, a2, a3, num_be, num_be, num_be, num_be, p1, p4]
  refine ⟨?_, ?_, ?_, ?_⟩ <;> omega
theorem form_nat {l : L} (h : form l ∨ l = L0) : 0 ≤ l.id ∧ 0 ≤ l.ver ∧ 0 ≤ l.reg := by
  rcases h with ⟨h1, h2, -, h4⟩ | rfl
  · omega
  · decide
theorem p64_ex {l : L} (h : form l ∨ l = L0) : p64 (ex l.rs) = l.rs := by
  rcases h with ⟨-, -, h3, -⟩ | rfl
  · unfold pw at h3
    obtain ⟨i, v, r, g⟩ := l
    simp only at h3 ⊢
    rcases h3 with rfl | rfl | rfl | rfl | rfl | rfl | rfl | rfl | rfl | rfl | rfl <;> decide
  · decide
theorem rl_reads : Reads rl := by
  intro l q h
  obtain ⟨h0, h1, h2, h3⟩ := lay_parts l q h
  obtain ⟨n0, n1, n2⟩ := form_nat h
  unfold rl
  rw [h0, h1, h2, h3, p64_ex h]
  obtain ⟨i, v, r, g⟩ := l
  simp only at n0 n1 n2 ⊢
  congr 1 <;> omega
/-- The reader of the definition. -/
def rl2 (l : List Nat) : L := ⟨num (l.take 4), num ((l.drop 4).take 1), if (num (l.take 4) = 0 ∧ num ((l.drop 4).take 1) = 0 ∧ num ((l.drop 6).take 1) = 0) ∧ num ((l.drop 5).take 1) = 0 then 0 else 2 ^ min (num ((l.drop 5).take 1)) 12, num ((l.drop 6).take 1)⟩
def cnt2 (n : Nat) : Nat := min n 2
theorem counts2 : Counts cnt2 := ⟨rfl, rfl, rfl⟩
theorem rl2_reads : Reads rl2 := by
  intro l q h
  obtain ⟨h0, h1, h2, h3⟩ := lay_parts l q h
  obtain ⟨n0, n1, n2⟩ := form_nat h
  unfold rl2
  rw [h0, h1, h2, h3]
  have key : (if (l.id.toNat = 0 ∧ l.ver.toNat = 0 ∧ l.reg.toNat = 0) ∧ ex l.rs = 0 then (0 : Int) else 2 ^ min (ex l.rs) 12) = l.rs := by
    rcases h with ⟨h1, h2, h3, h4⟩ | rfl
    · obtain ⟨x1, x2, x3⟩ := pw_ex h3
      rw [if_neg (by omega), Nat.min_eq_left (by omega)]
      exact x3.symm
    · decide
  rw [key]
  obtain ⟨i, v, r, g⟩ := l
  simp only at n0 n1 n2 ⊢
  congr 1 <;> omega
theorem apart (x : Int) (a b : S) (ha : valid a) (hb : valid b) : enc x a = enc x b ↔ a = b := by
  constructor
  · intro h
    rw [← rd_enc rl_reads counts x a ha, h, rd_enc rl_reads counts x b hb]
  · rintro rfl; rfl
/-- The error of Encode. -/
def err (s : S) (x : Int) : Int := if valid s then (if 0 ≤ x ∧ x < 1048576 then 0 else 2) else 4
theorem err_fr (s : S) (x : Int) (hv : valid s) : err s x = if Fr.may 3 0 x then 0 else 2 := by
  unfold err
  rw [if_pos hv]
  have : (0 ≤ x ∧ x < 1048576) ↔ Fr.may 3 0 x := by unfold Fr.may; omega
  by_cases h : Fr.may 3 0 x
  · rw [if_pos h, if_pos (this.2 h)]
  · rw [if_neg h, if_neg (fun k => h (this.1 k))]
/-- Are they the same? -/
def same (a b : S) : Bool := a.gen == b.gen && (a.phase == b.phase && (a.mig == b.mig && (a.tail == b.tail && (a.now == b.now && (sameL a.t b.t && (sameL a.h b.h && decide (a.f = b.f)))))))
theorem same_iff (a b : S) : same a b = true ↔ a = b := by
  obtain ⟨a0, a1, a2, a3, a4, a5, a6, a7⟩ := a
  obtain ⟨b0, b1, b2, b3, b4, b5, b6, b7⟩ := b
  unfold same
  simp only [Bool.and_eq_true, beq_iff_eq, sameL_iff, decide_eq_true_eq, S.mk.injEq]
theorem same_self (a : S) : same a a = true := (same_iff a a).2 rfl
end Sb
end Go.Proofs.Ytcdomlgnfbdeoaa
end
section
namespace Go.Proofs.Ytcdomlgnfbdeoaa
open Go.RowKit
namespace Sb
def b1 (x : Int) : Int := IntKind.u64.wrap (bits .and .u64 (x / 2) 6148914691236517205 + bits .and .u64 x 6148914691236517205)
def b2 (x : Int) : Int := IntKind.u64.wrap (bits .and .u64 (x / 4) 3689348814741910323 + bits .and .u64 x 3689348814741910323)
def b3 (x : Int) : Int := bits .and .u64 (IntKind.u64.wrap (x / 16 + x)) 1085102592571150095
def b4 (x : Int) : Int := IntKind.u64.wrap (x + x / 256)
def b5 (x : Int) : Int := IntKind.u64.wrap (x + x / 65536)
def b6 (x : Int) : Int := IntKind.u64.wrap (x + x / 4294967296)
/-- How many bits are 1, as bits.OnesCount64 reckons. -/
def ones (x : Int) : Int := bits .and .i64 (wrap64 (b6 (b5 (b4 (b3 (b2 (b1 x))))))) 127
theorem ones_table : ((List.range 2049).all fun n => (ones (n : Int) == 1) == decide (pw (n : Int) ∨ n = 1)) = true := by decide +kernel
theorem ones_pw (n : Nat) (h1 : 2 ≤ n) (h2 : n ≤ 2048) : (ones (n : Int) == 1) = decide (pw (n : Int)) := by
  have h := List.all_eq_true.1 ones_table n (List.mem_range.2 (by omega))
  rw [beq_iff_eq] at h
  rw [h]
  refine decide_eq_decide.2 ⟨fun h => ?_, .inl⟩
  rcases h with h | h
  · exact h
  · omega
end Sb
/-- The sizes, their lengths in bits, their exponents. -/
def Sb.Lit (n r q : Int) : Prop := (n = 0 ∧ r = 0 ∧ q = 0) ∨ (n = 2 ∧ r = 2 ∧ q = 1) ∨ (n = 4 ∧ r = 3 ∧ q = 2) ∨ (n = 8 ∧ r = 4 ∧ q = 3) ∨ (n = 16 ∧ r = 5 ∧ q = 4) ∨ (n = 32 ∧ r = 6 ∧ q = 5) ∨ (n = 64 ∧ r = 7 ∧ q = 6) ∨ (n = 128 ∧ r = 8 ∧ q = 7) ∨ (n = 256 ∧ r = 9 ∧ q = 8) ∨ (n = 512 ∧ r = 10 ∧ q = 9) ∨ (n = 1024 ∧ r = 11 ∧ q = 10) ∨ (n = 2048 ∧ r = 12 ∧ q = 11)
theorem Sb.lit_of {n : Int} (h : n = 0 ∨ Sb.pw n) : ∃ r, Sb.Lit n r (Sb.ex n : Int) := by
  unfold Sb.pw at h
  rcases h with rfl | rfl | rfl | rfl | rfl | rfl | rfl | rfl | rfl | rfl | rfl | rfl
  · exact ⟨0, by unfold Sb.Lit; decide⟩
  · exact ⟨2, by unfold Sb.Lit; decide⟩
  · exact ⟨3, by unfold Sb.Lit; decide⟩
  · exact ⟨4, by unfold Sb.Lit; decide⟩
  · exact ⟨5, by unfold Sb.Lit; decide⟩
  · exact ⟨6, by unfold Sb.Lit; decide⟩
  · exact ⟨7, by unfold Sb.Lit; decide⟩
  · exact ⟨8, by unfold Sb.Lit; decide⟩
  · exact ⟨9, by unfold Sb.Lit; decide⟩
  · exact ⟨10, by unfold Sb.Lit; decide⟩
  · exact ⟨11, by unfold Sb.Lit; decide⟩
  · exact ⟨12, by unfold Sb.Lit; decide⟩
set_option maxRecDepth 100000 in
theorem sblen_any (n r q : Int) (h : Sb.Lit n r q) (w : World) : Calls Try.prog 38 #[.int .u64 n] w fun e w' => e = .returned (.int .i64 r) ∧ w = w' := by
  have H64 : Calls Try.prog 55 #[.int .u64 n] w fun e w' => e = .returned (.int .i64 r) ∧ w = w' := by
    unfold Sb.Lit at h
    rcases h with ⟨rfl, rfl, rfl⟩ | ⟨rfl, rfl, rfl⟩ | ⟨rfl, rfl, rfl⟩ | ⟨rfl, rfl, rfl⟩ | ⟨rfl, rfl, rfl⟩ | ⟨rfl, rfl, rfl⟩ | ⟨rfl, rfl, rfl⟩ | ⟨rfl, rfl, rfl⟩ | ⟨rfl, rfl, rfl⟩ | ⟨rfl, rfl, rfl⟩ | ⟨rfl, rfl, rfl⟩ | ⟨rfl, rfl, rfl⟩
    all_goals
      go_enter Try.func55, Try.ntmps55
      go_wp2
      go_ret
      exact ⟨by kernel_rfl, rfl⟩
  have HC := Lib.hid H64
  clear H64 h
  go_enter Try.func38, Try.ntmps38
  go_wp2_with fail
  refine HC.out.mono ?_
  rintro e w' ⟨rfl, rfl⟩
  go_wp2
  go_ret
  exact ⟨rfl, rfl⟩
end Go.Proofs.Ytcdomlgnfbdeoaa
end
section
namespace Go.Proofs.Ytcdomlgnfbdeoaa
open Go.RowKit
namespace Sb
def lcells (l : L) : List Value := [.int .i64 l.id, .int .i64 l.ver, .int .i64 l.rs, .int .i64 l.reg]
/-- A layout as a value. -/
def lval (l : L) : Value := .agg #[.int .i64 l.id, .int .i64 l.ver, .int .i64 l.rs, .int .i64 l.reg]
/-- A superblock as a value, its foreign layouts a slice. -/
def cells (s : S) (A : Option Addr) (n c : Nat) : Array Value := #[.int .i64 s.gen, .int .i64 s.phase, .int .i64 s.mig, .int .i64 s.tail, .int .i64 s.now, .int .i64 s.t.id, .int .i64 s.t.ver, .int .i64 s.t.rs, .int .i64 s.t.reg, .int .i64 s.h.id, .int .i64 s.h.ver, .int .i64 s.h.rs, .int .i64 s.h.reg, .slice A n c]
def val (s : S) (A : Option Addr) (n c : Nat) : Value := .agg (cells s A n c)
end Sb
theorem cells14 {w : World} {g : Nat} {a0 a1 a2 a3 a4 a5 a6 a7 a8 a9 a10 a11 a12 a13 : Value} {t : TypeId} (h : w.heap[g]? = some (.cells #[a0, a1, a2, a3, a4, a5, a6, a7, a8, a9, a10, a11, a12, a13] t (0, 0))) :
    w.cell? ⟨g, 0, none⟩ = some a0 ∧ w.cell? ⟨g, 1, none⟩ = some a1 ∧ w.cell? ⟨g, 2, none⟩ = some a2 ∧ w.cell? ⟨g, 3, none⟩ = some a3 ∧ w.cell? ⟨g, 4, none⟩ = some a4 ∧ w.cell? ⟨g, 5, none⟩ = some a5 ∧ w.cell? ⟨g, 6, none⟩ = some a6 ∧ w.cell? ⟨g, 7, none⟩ = some a7 ∧ w.cell? ⟨g, 8, none⟩ = some a8 ∧ w.cell? ⟨g, 9, none⟩ = some a9 ∧ w.cell? ⟨g, 10, none⟩ = some a10 ∧ w.cell? ⟨g, 11, none⟩ = some a11 ∧ w.cell? ⟨g, 12, none⟩ = some a12 ∧ w.cell? ⟨g, 13, none⟩ = some a13 := by
  refine ⟨?_, ?_, ?_, ?_, ?_, ?_, ?_, ?_, ?_, ?_, ?_, ?_, ?_, ?_⟩
  all_goals (rw [cell_of_row w g _ _ t (0, 0) h]; rfl)
theorem frozen_at {w : World} {g : Nat} {cs : Array Value} {t : TypeId} (h : w.heap[g]? = some (.cells cs t (0, 0))) (j : Nat) : w.frozen? ⟨g, j, none⟩ = false := frozen_of_row w g j _ t h
/-- Layouts read through a slice, below block B. -/
def Ls (w : World) (B : Nat) (A : Option Addr) (f : List Sb.L) : Prop := ∀ k, k < f.length → ∃ ad, A = some ad ∧ ad.block < B ∧ w.cell? (ad.add (k * 4)) = some (.int .i64 (f.getD k Sb.L0).id) ∧ w.cell? (ad.add (k * 4 + 1)) = some (.int .i64 (f.getD k Sb.L0).ver) ∧ w.cell? (ad.add (k * 4 + 2)) = some (.int .i64 (f.getD k Sb.L0).rs) ∧ w.cell? (ad.add (k * 4 + 3)) = some (.int .i64 (f.getD k Sb.L0).reg)
theorem Ls.below {B C : Nat} {w w' : World} {A : Option Addr} {f : List Sb.L} (h : Ls w B A f) (hb : Below C w w') (hB : B ≤ C) : Ls w' B A f := fun k hk => by
  obtain ⟨ad, h1, h2, h3, h4, h5, h6⟩ := h k hk
  exact ⟨ad, h1, h2, (hb.cell (by rw [add_block]; omega)).trans h3, (hb.cell (by rw [add_block]; omega)).trans h4, (hb.cell (by rw [add_block]; omega)).trans h5, (hb.cell (by rw [add_block]; omega)).trans h6⟩
theorem Ls.heap {B : Nat} {w w' : World} {A : Option Addr} {f : List Sb.L} (h : Ls w B A f) (e : w'.heap = w.heap) : Ls w' B A f := fun k hk => by
  obtain ⟨ad, h1, h2, h3, h4, h5, h6⟩ := h k hk
  have q : ∀ x, w'.cell? x = w.cell? x := fun x => World.cell?_of_block (by rw [e])
  exact ⟨ad, h1, h2, (q _).trans h3, (q _).trans h4, (q _).trans h5, (q _).trans h6⟩
theorem Ls.more {B C : Nat} {w : World} {A : Option Addr} {f : List Sb.L} (h : Ls w B A f) (hB : B ≤ C) : Ls w C A f := fun k hk => by
  obtain ⟨ad, h1, h2, h3⟩ := h k hk
  exact ⟨ad, h1, by omega, h3⟩
theorem Ls.nil {B : Nat} {w : World} {A : Option Addr} : Ls w B A [] := fun k hk => absurd hk (by simp)
/-- Layouts that are short enough to be read whole: as many as the slice has. -/
def SbAt (w : World) (B : Nat) (s : Sb.S) (A : Option Addr) (n c : Nat) : Prop := SlIs A n c ∧ s.f.length = n ∧ Ls w B A s.f
theorem SbAt.below {B C : Nat} {w w' : World} {s : Sb.S} {A : Option Addr} {n c : Nat} (h : SbAt w B s A n c) (hb : Below C w w') (hB : B ≤ C) : SbAt w' B s A n c := ⟨h.1, h.2.1, h.2.2.below hb hB⟩
theorem SbAt.more {B C : Nat} {w : World} {s : Sb.S} {A : Option Addr} {n c : Nat} (h : SbAt w B s A n c) (hB : B ≤ C) : SbAt w C s A n c := ⟨h.1, h.2.1, h.2.2.more hB⟩
end Go.Proofs.Ytcdomlgnfbdeoaa
end
section
namespace Go.Proofs.Ytcdomlgnfbdeoaa
open Go.RowKit
namespace Sb
/-- 1 << k, as the walk writes it. -/
def P (k : Nat) : Int := ((2 : Int) ^ min k 64 + 9223372036854775808) % 18446744073709551616 - 9223372036854775808
theorem P_is (k : Nat) (h : k < 12) : wrap64 (2 ^ k) = P k := by simp only [wrap64, P]; rw [Nat.min_eq_left (by omega)]
def lg (n : Int) : Int := if n = 1 then 0 else if pw n then (ex n : Int) else -1
theorem lg_table : ∀ k : Nat, k < 12 → lg (P k) = (k : Int) := by decide
theorem lg_hit {n : Int} {k : Nat} (hk : k < 12) (h : n = P k) : lg n = (k : Int) := by
  rw [h]
  exact lg_table k hk
theorem lg_miss {n : Int} (h : ∀ j, j < 12 → n ≠ P j) : lg n = -1 := by
  unfold lg
  have h0 : n ≠ 1 := fun e => h 0 (by decide) (e.trans (by decide))
  rw [if_neg h0, if_neg]
  intro hp
  unfold pw at hp
  rcases hp with rfl | rfl | rfl | rfl | rfl | rfl | rfl | rfl | rfl | rfl | rfl
  · exact h 1 (by decide) (by decide)
  · exact h 2 (by decide) (by decide)
  · exact h 3 (by decide) (by decide)
  · exact h 4 (by decide) (by decide)
  · exact h 5 (by decide) (by decide)
  · exact h 6 (by decide) (by decide)
  · exact h 7 (by decide) (by decide)
  · exact h 8 (by decide) (by decide)
  · exact h 9 (by decide) (by decide)
  · exact h 10 (by decide) (by decide)
  · exact h 11 (by decide) (by decide)
theorem lg_pw (n : Int) : decide (1 ≤ lg n) = decide (pw n) := by
  unfold lg
  by_cases h1 : n = 1
  · subst h1; decide
  · rw [if_neg h1]
    by_cases hp : pw n
    · rw [if_pos hp, decide_eq_true hp, decide_eq_true (by have := pw_ex hp; omega)]
    · rw [if_neg hp, decide_eq_false hp]; rfl
theorem lg_max (n : Int) (h : n = 0 ∨ pw n) : (if lg n < 0 then 0 else lg n) = (ex n : Int) := by
  rcases h with rfl | h
  · decide
  · unfold pw at h
    rcases h with rfl | rfl | rfl | rfl | rfl | rfl | rfl | rfl | rfl | rfl | rfl <;> decide
end Sb
end Go.Proofs.Ytcdomlgnfbdeoaa
end
section
namespace Go.Proofs.Ytcdomlgnfbdeoaa
open Go.RowKit
theorem five_ways (t0 t1 t2 t3 : Bool) : t0 = false ∨ (t0 = true ∧ t1 = false) ∨ (t0 = true ∧ t1 = true ∧ t2 = false) ∨ (t0 = true ∧ t1 = true ∧ t2 = true ∧ t3 = false) ∨ (t0 = true ∧ t1 = true ∧ t2 = true ∧ t3 = true) := by
  cases t0 <;> cases t1 <;> cases t2 <;> cases t3 <;> simp
theorem sd_cells4 {w W : World} {a b c d : Value} {t : TypeId} (h : Sd w w.heap.size (.cells #[a, b, c, d] t (0, 0)) W) : W.cell? ⟨w.heap.size, 0, none⟩ = some a ∧ W.cell? ⟨w.heap.size, 1, none⟩ = some b ∧ W.cell? ⟨w.heap.size, 2, none⟩ = some c ∧ W.cell? ⟨w.heap.size, 3, none⟩ = some d := four_cells h.1
end Go.Proofs.Ytcdomlgnfbdeoaa
end
section
namespace Go.Proofs.Ytcdomlgnfbdeoaa
open Go.RowKit
theorem at_field (ad : Addr) (j i : Nat) (h : 0 < i) : ad.add (j + i) = ⟨(ad.add j).block, (ad.add j).off + i, none⟩ := by
  unfold Addr.add
  by_cases hj : j = 0 <;> simp [hj, Nat.add_assoc] <;> omega
/-- The cells of one layout of a slice, as a load spells them. -/
theorem Ls.at {B : Nat} {w : World} {ad : Addr} {f : List Sb.L} (h : Ls w B (some ad) f) (k : Nat) (hk : k < f.length) (a b c d : Int) (e : f.getD k Sb.L0 = ⟨a, b, c, d⟩) :
    w.cell? (ad.add (k * 4)) = some (.int .i64 a) ∧ w.cell? ⟨(ad.add (k * 4)).block, (ad.add (k * 4)).off + 1, none⟩ = some (.int .i64 b) ∧ w.cell? ⟨(ad.add (k * 4)).block, (ad.add (k * 4)).off + 2, none⟩ = some (.int .i64 c) ∧ w.cell? ⟨(ad.add (k * 4)).block, (ad.add (k * 4)).off + 3, none⟩ = some (.int .i64 d) := by
  obtain ⟨ad', e1, _, h0, h1, h2, h3⟩ := h k hk
  injection e1 with e1
  subst e1
  rw [e] at h0 h1 h2 h3
  rw [at_field _ _ _ (by decide)] at h1 h2 h3
  exact ⟨h0, h1, h2, h3⟩
theorem ls_some {w : World} {B k : Nat} {A : Option Addr} {f : List Sb.L} (h : Ls w B A f) (hk : k < f.length) : ∃ ad, A = some ad := by
  obtain ⟨ad, e, _⟩ := h k hk
  exact ⟨ad, e⟩
theorem lays_ext {a b : List Sb.L} (hl : a.length = b.length) (h : ∀ j, j < a.length → a.getD j Sb.L0 = b.getD j Sb.L0) : a = b := by
  apply List.ext_getElem hl
  intro j h1 h2
  have e := h j h1
  rw [List.getD_eq_getElem?_getD, List.getD_eq_getElem?_getD, List.getElem?_eq_getElem h1, List.getElem?_eq_getElem h2] at e
  exact e
theorem eight_ways (t0 t1 t2 t3 t4 t5 t6 : Bool) : t0 = false ∨ (t0 = true ∧ t1 = false) ∨ (t0 = true ∧ t1 = true ∧ t2 = false) ∨ (t0 = true ∧ t1 = true ∧ t2 = true ∧ t3 = false) ∨ (t0 = true ∧ t1 = true ∧ t2 = true ∧ t3 = true ∧ t4 = false) ∨ (t0 = true ∧ t1 = true ∧ t2 = true ∧ t3 = true ∧ t4 = true ∧ t5 = false) ∨ (t0 = true ∧ t1 = true ∧ t2 = true ∧ t3 = true ∧ t4 = true ∧ t5 = true ∧ t6 = false) ∨ (t0 = true ∧ t1 = true ∧ t2 = true ∧ t3 = true ∧ t4 = true ∧ t5 = true ∧ t6 = true) := by
  cases t0 <;> cases t1 <;> cases t2 <;> cases t3 <;> cases t4 <;> cases t5 <;> cases t6 <;> simp
theorem sd2_new (w : World) (cs cs' : Array Value) (t t' : TypeId) : Sd2 w (.cells cs t (0, 0)) (.cells cs' t' (0, 0)) ((w.alloc (.cells cs t)).alloc (.cells cs' t')) := by
  have hs : (w.alloc (.cells cs t)).heap.size = w.heap.size + 1 := by simp
  exact ⟨(heap_alloc_old _ _ (by simp)).trans (heap_alloc_new w _), alloc_at hs.symm, ((Below.refl _ w).alloc (Nat.le_refl _) _).alloc (by simp) _⟩
end Go.Proofs.Ytcdomlgnfbdeoaa
end
section
namespace Go.Proofs.Ytcdomlgnfbdeoaa
open Go.RowKit
theorem ne_of_beq {a b : Int} (h : (a == b) = true) : (a != b) = false := by rw [bne, h]; rfl
theorem ne_of_beq' {a b : Int} (h : (a == b) = false) : (a != b) = true := by rw [bne, h]; rfl
end Go.Proofs.Ytcdomlgnfbdeoaa
end
section
namespace Go.Proofs.Ytcdomlgnfbdeoaa
open Go
section
variable {P : Program} {ops : Array Oper} {Q : Exit → Act → World → Prop} {md : Region.Mode} {S : World → Prop}
/-- What yields in every world that meets S. -/
theorem held_take {i : Nat} {oi : Oper} {v : Value} {d : Option Tmp} {n : Nat} {ls : Array Bool} {a : Act} {w : World} (hi : ops[i]? = some oi) (hd : oi.dst = d) (hs : Region.noSelect ops = true) (hf : Region.free md ops ls i = true) (hr : (Region.ready md ops ls).contains i = true)
    (hQ : ∀ c a w, Q (.panic c) (a.put d v) w → Q (.panic c) a w) (hS : S w) (hy : Region.wanted oi (yielded ops a.tmps) = true ∧ ∀ w, S w → (execOp a.eval oi).run P w = .ok (.value v) w)
    (h : wpAnyH P md ops Q S n (ls.setIfInBounds i true) (a.put d v) w) : wpAnyH P md ops Q S (n + 1) ls a w := by
  subst hd
  exact wpAnyH_take hi hs hf hr hQ (Or.inl hy) hS h
/-- What is not carried out. -/
theorem held_skip {i : Nat} {oi : Oper} {d : Option Tmp} {n : Nat} {ls : Array Bool} {a : Act} {w : World} (hi : ops[i]? = some oi) (hd : oi.dst = d) (hs : Region.noSelect ops = true) (hf : Region.free md ops ls i = true) (hr : (Region.ready md ops ls).contains i = true)
    (hQ : ∀ c a w, Q (.panic c) (a.put d undef) w → Q (.panic c) a w) (hS : S w) (hy : Region.wanted oi (yielded ops a.tmps) = false)
    (h : wpAnyH P md ops Q S n (ls.setIfInBounds i true) (a.put d undef) w) : wpAnyH P md ops Q S (n + 1) ls a w := by
  subst hd
  exact wpAnyH_take hi hs hf hr hQ (Or.inr ⟨hy, rfl⟩) hS h
/-- The one that may come up is carried out. -/
theorem held_step {i : Nat} {oi : Oper} {n : Nat} {ls : Array Bool} {a : Act} {w : World} (hi : ops[i]? = some oi) (hr : Region.ready md ops ls = [i]) (hw : Region.wanted oi (yielded ops a.tmps) = true)
    (h : ∀ K : Act → World → Prop, (∀ b u, S u → wpAnyH P md ops Q S n (ls.setIfInBounds i true) b u → K b u) → Oper.wp P oi a w K Q) : wpAnyH P md ops Q S (n + 1) ls a w := by
  refine ⟨fun e => (by rw [hr] at e; cases e), fun j hj => ?_⟩
  rw [hr] at hj
  obtain rfl : j = i := by simpa using hj
  refine wpOp_step hi fun K hK => ?_
  rw [if_pos hw]
  exact h K fun b u hS hb => hK b u ⟨hS, hb⟩
end
end Go.Proofs.Ytcdomlgnfbdeoaa
end
section
namespace Go.Proofs.Ytcdomlgnfbdeoaa
open Go.RowKit
theorem decide_ne (a b : Int) : decide (a ≠ b) = (a != b) := by
  by_cases h : a = b
  · subst h; simp
  · simp [h]
end Go.Proofs.Ytcdomlgnfbdeoaa
end
section
namespace Go.Proofs.Ytcdomlgnfbdeoaa
open Go.RowKit
theorem num1 (l : List Nat) (h : ∀ x ∈ l, x < 256) : Wire.num (l.take 1) < 256 := by
  have h1 := Wire.num_lt (l.take 1) (fun x hx => h x (List.mem_of_mem_take hx))
  have h2 : (256 : Nat) ^ (l.take 1).length ≤ 256 ^ 1 := Nat.pow_le_pow_right (by decide) (by rw [List.length_take]; omega)
  have h3 : (256 : Nat) ^ 1 = 256 := rfl
  omega
theorem grown_past {w w5 w6 : World} {row : Option Nat} {r : Nat} (h : w.grownBy w5 row) (k : w5.grownBy w6 (some r)) (hr : w.heap.size ≤ r) : w.grownBy w6 row :=
  ⟨k.os.trans h.os, k.tape.trans h.tape, k.output.trans h.output, Nat.le_trans h.size k.size, fun b hb hne => (k.block b (Nat.lt_of_lt_of_le hb h.size) (fun e => by injection e with e; omega)).trans (h.block b hb hne)⟩
end Go.Proofs.Ytcdomlgnfbdeoaa
end
section
namespace Go.Proofs.Ytcdomlgnfbdeoaa
open Go.RowKit
theorem wrap_byte (b : Nat) (h : b < 256) : IntKind.i64.wrap (b : Int) = (b : Int) := by rw [IntKind.wrap_i64]; omega
theorem cell_byte {w : World} {B : Nat} {ad : Addr} {p : List Nat} (h : Bs w B (some ad) p) (i : Nat) (hi : i < p.length) : p.getD i 0 < 256 ∧ w.cell? (ad.add i) = some (.int .u8 ((p.getD i 0 : Nat) : Int)) := by
  obtain ⟨h1, ad', e, _, hc⟩ := h i hi
  injection e with e
  subst e
  exact ⟨h1, hc⟩
theorem num_at (l : List Nat) (i : Nat) (h : i < l.length) : Wire.num ((l.drop i).take 1) = l.getD i 0 := by
  have e : (l.drop i).take 1 = [l.getD i 0] := by
    rw [List.take_one, List.head?_drop, List.getElem?_eq_getElem h, List.getD_eq_getElem?_getD, List.getElem?_eq_getElem h]; rfl
  rw [e]; simp [Wire.num]
/-- The size of regions that Read gives. -/
def Sb.sz (b : Nat) : Int := 2 ^ min b 12
theorem sz_is (m : Nat) (h : m ≤ 12) : wrap64 (2 ^ m) = (2 : Int) ^ m := by
  have : ∀ m : Nat, m < 13 → wrap64 (2 ^ m) = (2 : Int) ^ m := by
    simp only [wrap64]
    decide
  exact this m (by omega)
end Go.Proofs.Ytcdomlgnfbdeoaa
end
