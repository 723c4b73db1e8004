/-
  The texts SbOne, GmMath, PkMath, GmWalk, Arr, Own of this proof, one behind the other.
-/
import Derived.Test.YtgnbmmceffolmaaGreatDoorFoldB
import Derived.Deep.LoopGhost
import Derived.Deep.DeepCutAuto
import Derived.Deep.CutBlock
import Derived.BigQuiet
import Derived.OrdersHeld
import Derived.RegionTactic
import Derived.Deep.RegionHeld
section
section
namespace Go.Proofs.YtgnbmmceffolmaaGreatDoor
namespace Sb
open Wire
/-- A layout. -/
structure L where
  id : Int
  ver : Int
  rs : Int
  reg : Int
def L0 : L := ⟨0, 0, 0, 0⟩
def sameL (a b : L) : Bool := a.id == b.id && (a.ver == b.ver && (a.rs == b.rs && a.reg == b.reg))
theorem sameL_iff (a b : L) : sameL a b = true ↔ a = b := by
  obtain ⟨a0, a1, a2, a3⟩ := a
  obtain ⟨b0, b1, b2, b3⟩ := b
  unfold sameL
  simp only [Bool.and_eq_true, beq_iff_eq, L.mk.injEq]
instance : DecidableEq L := fun a b => decidable_of_iff _ (sameL_iff a b)
/-- A superblock. -/
structure S where
  gen : Int
  phase : Int
  mig : Int
  tail : Int
  now : Int
  t : L
  h : L
  f : List L
/-- The sizes of regions that there are. -/
def pw (n : Int) : Prop := n = 2 ∨ n = 4 ∨ n = 8 ∨ n = 16 ∨ n = 32 ∨ n = 64 ∨ n = 128 ∨ n = 256 ∨ n = 512 ∨ n = 1024 ∨ n = 2048
instance (n : Int) : Decidable (pw n) := by unfold pw; infer_instance
/-- The k with 2^k = n, 0 if there is none. -/
def ex (n : Int) : Nat := if n = 2 then 1 else if n = 4 then 2 else if n = 8 then 3 else if n = 16 then 4 else if n = 32 then 5 else if n = 64 then 6 else if n = 128 then 7 else if n = 256 then 8 else if n = 512 then 9 else if n = 1024 then 10 else if n = 2048 then 11 else 0
theorem pw_ex {n : Int} (h : pw n) : 1 ≤ ex n ∧ ex n ≤ 11 ∧ n = 2 ^ ex n := by
  unfold pw at h
  rcases h with rfl | rfl | rfl | rfl | rfl | rfl | rfl | rfl | rfl | rfl | rfl <;> decide
theorem pw_le {n : Int} (h : pw n) : 2 ≤ n ∧ n ≤ 2048 := by
  unfold pw at h; omega
theorem ex_le (n : Int) : ex n ≤ 11 := by
  unfold ex; repeat' split
  all_goals omega
/-- Is the layout well-formed? -/
def form (l : L) : Prop := (1 ≤ l.id ∧ l.id ≤ 4294967295) ∧ (1 ≤ l.ver ∧ l.ver ≤ 2) ∧ pw l.rs ∧ (4 ≤ l.reg ∧ l.reg ≤ 16)
instance (l : L) : Decidable (form l) := by unfold form; infer_instance
def nums (s : S) : Prop := (1 ≤ s.gen ∧ s.gen ≤ 1099511627775) ∧ (0 ≤ s.mig ∧ s.mig ≤ 4294967295) ∧ (0 ≤ s.tail ∧ s.tail ≤ 281474976710655) ∧ (0 ≤ s.now ∧ s.now ≤ 549755813888) ∧ form s.t
instance (s : S) : Decidable (nums s) := by unfold nums; infer_instance
/-- Does it belong to a migration that begins at Home? -/
def home (s : S) : Prop := s.mig ≠ 0 ∧ form s.h ∧ 0 < s.f.length ∧ s.f.getD 0 L0 = s.h ∧ s.t.id ≠ s.h.id
instance (s : S) : Decidable (home s) := by unfold home; infer_instance
/-- Does it come back from the layout l? -/
def back (s : S) (l : L) : Prop := s.t = ⟨s.t.id, s.h.ver, s.h.rs, s.h.reg⟩ ∧ form l ∧ l.id ≠ s.h.id ∧ l.id ≠ s.t.id
instance (s : S) (l : L) : Decidable (back s l) := by unfold back; infer_instance
def suits (s : S) : Prop := (s.phase = 1 ∧ s.h = L0 ∧ s.f.length = 0) ∨ (s.phase = 2 ∧ home s ∧ s.f.length = 1) ∨ (s.phase = 3 ∧ home s ∧ s.f.length = 2 ∧ back s (s.f.getD 1 L0))
instance (s : S) : Decidable (suits s) := by unfold suits; infer_instance
/-- Is the superblock valid? -/
def valid (s : S) : Prop := nums s ∧ suits s
instance (s : S) : Decidable (valid s) := by unfold valid; infer_instance
theorem valid_f {s : S} (hv : valid s) : (s.f = [] ∧ s.h = L0 ∧ s.phase = 1) ∨ (s.f = [s.h] ∧ form s.h ∧ s.phase = 2) ∨ (∃ g, s.f = [s.h, g] ∧ form s.h ∧ form g ∧ s.phase = 3) := by
  obtain ⟨-, h⟩ := hv
  rcases h with ⟨hp, h0, hl⟩ | ⟨hp, ⟨-, hf, -, h0, -⟩, hl⟩ | ⟨hp, ⟨-, hf, -, h0, -⟩, hl, ⟨-, hg, -⟩⟩
  · exact .inl ⟨List.eq_nil_of_length_eq_zero hl, h0, hp⟩
  · match hh : s.f, hl with
    | [a], _ =>
      rw [hh] at h0
      simp at h0
      exact .inr (.inl ⟨by rw [h0], hf, hp⟩)
  · match hh : s.f, hl with
    | [a, b], _ =>
      rw [hh] at h0 hg
      simp at h0 hg
      exact .inr (.inr ⟨b, by rw [h0], hf, hg, hp⟩)
/-- The bytes of a layout. -/
def lay (l : L) : List Nat := be 4 l.id.toNat ++ (be 1 l.ver.toNat ++ (be 1 (ex l.rs) ++ be 1 l.reg.toNat))
theorem lay_length (l : L) : (lay l).length = 7 := by simp [lay, be_length]
theorem lay_lt (l : L) : ∀ x ∈ lay l, x < 256 := by
  intro x hx
  unfold lay at hx
  rcases List.mem_append.1 hx with h | hx
  · exact be_lt _ _ x h
  rcases List.mem_append.1 hx with h | hx
  · exact be_lt _ _ x h
  rcases List.mem_append.1 hx with h | hx
  · exact be_lt _ _ x h
  exact be_lt _ _ x hx
/-- The second foreign layout, where there is one. -/
def more (s : S) : List Nat := if s.f.length = 2 then lay (s.f.getD 1 L0) else []
theorem more_lt (s : S) : ∀ x ∈ more s, x < 256 := by
  intro x hx
  unfold more at hx
  split at hx
  · exact lay_lt _ x hx
  · cases hx
theorem more_length (s : S) : (more s).length ≤ 7 := by
  unfold more
  split
  · rw [lay_length]; exact Nat.le_refl _
  · exact Nat.zero_le _
def body (s : S) : List Nat := be 5 s.gen.toNat ++ (be 1 s.phase.toNat ++ (be 4 s.mig.toNat ++ (be 6 s.tail.toNat ++ (be 5 s.now.toNat ++ (lay s.t ++ (lay s.h ++ (be 1 s.f.length ++ more s)))))))
theorem body_length (s : S) : (body s).length = 36 + (more s).length := by
  simp only [body, List.length_append, be_length, lay_length]; omega
theorem body_le (s : S) : (body s).length ≤ 43 := by rw [body_length]; have := more_length s; omega
theorem body_lt (s : S) : ∀ x ∈ body s, x < 256 := by
  intro x hx
  unfold body at hx
  rcases List.mem_append.1 hx with h | hx
  · exact be_lt _ _ x h
  rcases List.mem_append.1 hx with h | hx
  · exact be_lt _ _ x h
  rcases List.mem_append.1 hx with h | hx
  · exact be_lt _ _ x h
  rcases List.mem_append.1 hx with h | hx
  · exact be_lt _ _ x h
  rcases List.mem_append.1 hx with h | hx
  · exact be_lt _ _ x h
  rcases List.mem_append.1 hx with h | hx
  · exact lay_lt _ x h
  rcases List.mem_append.1 hx with h | hx
  · exact lay_lt _ x h
  rcases List.mem_append.1 hx with h | hx
  · exact be_lt _ _ x h
  exact more_lt _ x hx
/-- The bytes of a superblock's sector. -/
def enc (x : Int) (s : S) : List Nat := Fr.enc 3 0 x (body s)
theorem enc_length (x : Int) (s : S) : (enc x s).length = 64 := Fr.enc_length _ _ _ _ (by have := body_le s; omega)
theorem enc_lt (x : Int) (s : S) : ∀ y ∈ enc x s, y < 256 := Fr.enc_lt _ _ _ _ (by decide) (body_lt s)
/-- What is read at the beginning of a payload, by a reader R of layouts and c of the number of foreign ones. -/
def rd (R : List Nat → L) (c : Nat → Nat) (p : List Nat) : S :=
  ⟨num (p.take 5), num ((p.drop 5).take 1), num ((p.drop 6).take 4), num ((p.drop 10).take 6), num ((p.drop 16).take 5), R (p.drop 21), R (p.drop 28), [R (p.drop 28), R (p.drop 36)].take (c (num ((p.drop 35).take 1)))⟩
/-- A reader that reads what was written. -/
def Reads (R : List Nat → L) : Prop := ∀ l q, form l ∨ l = L0 → R (lay l ++ q) = l
def Counts (c : Nat → Nat) : Prop := c 0 = 0 ∧ c 1 = 1 ∧ c 2 = 2
theorem tk (k n : Nat) (r : List Nat) : (be k n ++ r).take k = be k n := List.take_left' (be_length k n)
theorem dp (j k n : Nat) (r : List Nat) : (be k n ++ r).drop (k + j) = r.drop j := by
  rw [← List.drop_drop, List.drop_left' (be_length k n)]
theorem dpl (j : Nat) (l : L) (r : List Nat) : (lay l ++ r).drop (7 + j) = r.drop j := by
  rw [← List.drop_drop, List.drop_left' (lay_length l)]
theorem rd_body {R : List Nat → L} {c : Nat → Nat} (hR : Reads R) (hc : Counts c) (s : S) (q : List Nat) (hv : valid s) : rd R c (body s ++ q) = s := by
  have hf := valid_f hv
  obtain ⟨⟨h1, h2, h3, h4, h5⟩, -⟩ := hv
  have e : body s ++ q = be 5 s.gen.toNat ++ (be 1 s.phase.toNat ++ (be 4 s.mig.toNat ++ (be 6 s.tail.toNat ++ (be 5 s.now.toNat ++ (lay s.t ++ (lay s.h ++ (be 1 s.f.length ++ (more s ++ q)))))))) := by simp [body]
  have p1 : (256 : Nat) ^ 1 = 256 := rfl
  have p4 : (256 : Nat) ^ 4 = 4294967296 := rfl
  have p5 : (256 : Nat) ^ 5 = 1099511627776 := rfl
  have p6 : (256 : Nat) ^ 6 = 281474976710656 := rfl
  have a0 : (body s ++ q).take 5 = be 5 s.gen.toNat := by rw [e]; exact tk 5 _ _
  have a1 : ((body s ++ q).drop 5).take 1 = be 1 s.phase.toNat := by rw [e, dp 0 5, List.drop_zero]; exact tk 1 _ _
  have a2 : ((body s ++ q).drop 6).take 4 = be 4 s.mig.toNat := by rw [e, dp 1 5, dp 0 1, List.drop_zero]; exact tk 4 _ _
  have a3 : ((body s ++ q).drop 10).take 6 = be 6 s.tail.toNat := by rw [e, dp 5 5, dp 4 1, dp 0 4, List.drop_zero]; exact tk 6 _ _
  have a4 : ((body s ++ q).drop 16).take 5 = be 5 s.now.toNat := by rw [e, dp 11 5, dp 10 1, dp 6 4, dp 0 6, List.drop_zero]; exact tk 5 _ _
  have a5 : (body s ++ q).drop 21 = lay s.t ++ (lay s.h ++ (be 1 s.f.length ++ (more s ++ q))) := by rw [e, dp 16 5, dp 15 1, dp 11 4, dp 5 6, dp 0 5, List.drop_zero]
  have a6 : (body s ++ q).drop 28 = lay s.h ++ (be 1 s.f.length ++ (more s ++ q)) := by rw [← List.drop_drop (i := 7) (j := 21), a5, dpl 0, List.drop_zero]
  have a7 : ((body s ++ q).drop 35).take 1 = be 1 s.f.length := by rw [← List.drop_drop (i := 7) (j := 28), a6, dpl 0, List.drop_zero]; exact tk 1 _ _
  have a8 : (body s ++ q).drop 36 = more s ++ q := by rw [← List.drop_drop (i := 8) (j := 28), a6, dpl 1, dp 0 1, List.drop_zero]
  have ht : R ((body s ++ q).drop 21) = s.t := by rw [a5]; exact hR _ _ (.inl h5)
  have hh : R ((body s ++ q).drop 28) = s.h := by
    rw [a6]
    refine hR _ _ ?_
    rcases hf with ⟨-, h, -⟩ | ⟨-, h, -⟩ | ⟨g, -, h, -⟩
    · exact .inr h
    · exact .inl h
    · exact .inl h
  have hfl : s.f.length % 256 = s.f.length := by
    rcases hf with ⟨h, -⟩ | ⟨h, -⟩ | ⟨g, h, -⟩ <;> rw [h] <;> rfl
  have hph : 0 ≤ s.phase ∧ s.phase < 256 := by
    rcases hf with ⟨-, -, h⟩ | ⟨-, -, h⟩ | ⟨g, -, -, -, h⟩ <;> rw [h] <;> decide
  have hfo : [s.h, R ((body s ++ q).drop 36)].take (c s.f.length) = s.f := by
    rcases hf with ⟨h, -⟩ | ⟨h, -⟩ | ⟨g, h, -, hg, -⟩
    · rw [h]; show List.take (c 0) _ = _; rw [hc.1]; rfl
    · rw [h]; show List.take (c 1) _ = _; rw [hc.2.1]; rfl
    · have hm : more s = lay g := by unfold more; rw [h]; rfl
      rw [a8, hm, hR g q (.inl hg), h]
      show List.take (c 2) _ = _
      rw [hc.2.2]; rfl
  unfold rd
  rw [a0, a1, a2, a3, a4, a7, ht, hh, num_be, num_be, num_be, num_be, num_be, num_be, p1, p4, p5, p6, hfl, hfo]
  obtain ⟨gen, phase, mig, tail, now, t, h, f⟩ := s
  simp only at h1 h2 h3 h4 hph ⊢
  congr 1 <;> omega
/-- Is b the sector of the valid superblock s? -/
def good (x : Int) (b : List Nat) (s : S) : Prop := Fr.may 3 0 x ∧ valid s ∧ enc x s = b
theorem sub_enc (x : Int) (s : S) : Rc.sub (enc x s) 1 59 = body s ++ List.replicate (59 - (body s).length) 0 := by
  unfold enc
  rw [Fr.sub_enc _ _ _ _ (by have := body_le s; omega)]
theorem rd_enc {R : List Nat → L} {c : Nat → Nat} (hR : Reads R) (hc : Counts c) (x : Int) (s : S) (hv : valid s) : rd R c (Rc.sub (enc x s) 1 59) = s := by rw [sub_enc, rd_body hR hc s _ hv]
/-- The reader of the program. -/
def p64 (k : Nat) : Int := if k = 0 then 0 else ((2 : Int) ^ min k 64 + 9223372036854775808) % 18446744073709551616 - 9223372036854775808
def rl (l : List Nat) : L := ⟨num (l.take 4), num ((l.drop 4).take 1), p64 (num ((l.drop 5).take 1)), num ((l.drop 6).take 1)⟩
def cnt (n : Nat) : Nat := if n = 1 then 1 else if n = 2 then 2 else 0
theorem counts : Counts cnt := ⟨rfl, rfl, rfl⟩
theorem lay_parts (l : L) (q : List Nat) (h : form l ∨ l = L0) : num ((lay l ++ q).take 4) = l.id.toNat ∧ num (((lay l ++ q).drop 4).take 1) = l.ver.toNat ∧ num (((lay l ++ q).drop 5).take 1) = ex l.rs ∧ num (((lay l ++ q).drop 6).take 1) = l.reg.toNat := by
  have e : lay l ++ q = be 4 l.id.toNat ++ (be 1 l.ver.toNat ++ (be 1 (ex l.rs) ++ (be 1 l.reg.toNat ++ q))) := by simp [lay]
  have p1 : (256 : Nat) ^ 1 = 256 := rfl
  have p4 : (256 : Nat) ^ 4 = 4294967296 := rfl
  have a0 : (lay l ++ q).take 4 = be 4 l.id.toNat := by rw [e]; exact tk 4 _ _
  have a1 : ((lay l ++ q).drop 4).take 1 = be 1 l.ver.toNat := by rw [e, dp 0 4, List.drop_zero]; exact tk 1 _ _
  have a2 : ((lay l ++ q).drop 5).take 1 = be 1 (ex l.rs) := by rw [e, dp 1 4, dp 0 1, List.drop_zero]; exact tk 1 _ _
  have a3 : ((lay l ++ q).drop 6).take 1 = be 1 l.reg.toNat := by rw [e, dp 2 4, dp 1 1, dp 0 1, List.drop_zero]; exact tk 1 _ _
  have hx := ex_le l.rs
  have hb : l.id.toNat < 4294967296 ∧ l.ver.toNat < 256 ∧ l.reg.toNat < 256 := by
    rcases h with ⟨h1, h2, -, h4⟩ | rfl
    · omega
    · decide
  rw [a0, a1, a2, a3, num_be, num_be, num_be, num_be, p1, p4]
  refine ⟨?_, ?_, ?_, ?_⟩ <;> omega
theorem form_nat {l : L} (h : form l ∨ l = L0) : 0 ≤ l.id ∧ 0 ≤ l.ver ∧ 0 ≤ l.reg := by
  rcases h with ⟨h1, h2, -, h4⟩ | rfl
  · omega
  · decide
theorem p64_ex {l : L} (h : form l ∨ l = L0) : p64 (ex l.rs) = l.rs := by
  rcases h with ⟨-, -, h3, -⟩ | rfl
  · unfold pw at h3
    obtain ⟨i, v, r, g⟩ := l
    simp only at h3 ⊢
    rcases h3 with rfl | rfl | rfl | rfl | rfl | rfl | rfl | rfl | rfl | rfl | rfl <;> decide
  · decide
theorem rl_reads : Reads rl := by
  intro l q h
  obtain ⟨h0, h1, h2, h3⟩ := lay_parts l q h
  obtain ⟨n0, n1, n2⟩ := form_nat h
  unfold rl
  rw [h0, h1, h2, h3, p64_ex h]
  obtain ⟨i, v, r, g⟩ := l
  simp only at n0 n1 n2 ⊢
  congr 1 <;> omega
theorem apart (x : Int) (a b : S) (ha : valid a) (hb : valid b) : enc x a = enc x b ↔ a = b := by
  constructor
  · intro h
    rw [← rd_enc rl_reads counts x a ha, h, rd_enc rl_reads counts x b hb]
  · rintro rfl; rfl
/-- The error of Encode. -/
def err (s : S) (x : Int) : Int := if valid s then (if 0 ≤ x ∧ x < 1048576 then 0 else 2) else 4
theorem err_fr (s : S) (x : Int) (hv : valid s) : err s x = if Fr.may 3 0 x then 0 else 2 := by
  unfold err
  rw [if_pos hv]
  have : (0 ≤ x ∧ x < 1048576) ↔ Fr.may 3 0 x := by unfold Fr.may; omega
  by_cases h : Fr.may 3 0 x
  · rw [if_pos h, if_pos (this.2 h)]
  · rw [if_neg h, if_neg (fun k => h (this.1 k))]
/-- Are they the same? -/
def same (a b : S) : Bool := a.gen == b.gen && (a.phase == b.phase && (a.mig == b.mig && (a.tail == b.tail && (a.now == b.now && (sameL a.t b.t && (sameL a.h b.h && decide (a.f = b.f)))))))
theorem same_iff (a b : S) : same a b = true ↔ a = b := by
  obtain ⟨a0, a1, a2, a3, a4, a5, a6, a7⟩ := a
  obtain ⟨b0, b1, b2, b3, b4, b5, b6, b7⟩ := b
  unfold same
  simp only [Bool.and_eq_true, beq_iff_eq, sameL_iff, decide_eq_true_eq, S.mk.injEq]
theorem same_self (a : S) : same a a = true := (same_iff a a).2 rfl
end Sb
end Go.Proofs.YtgnbmmceffolmaaGreatDoor
end
section
namespace Go.Proofs.YtgnbmmceffolmaaGreatDoor
open Go.RowKit
namespace Sb
def b1 (x : Int) : Int := IntKind.u64.wrap (bits .and .u64 (x / 2) 6148914691236517205 + bits .and .u64 x 6148914691236517205)
def b2 (x : Int) : Int := IntKind.u64.wrap (bits .and .u64 (x / 4) 3689348814741910323 + bits .and .u64 x 3689348814741910323)
def b3 (x : Int) : Int := bits .and .u64 (IntKind.u64.wrap (x / 16 + x)) 1085102592571150095
def b4 (x : Int) : Int := IntKind.u64.wrap (x + x / 256)
def b5 (x : Int) : Int := IntKind.u64.wrap (x + x / 65536)
def b6 (x : Int) : Int := IntKind.u64.wrap (x + x / 4294967296)
/-- How many bits are 1, as bits.OnesCount64 reckons. -/
def ones (x : Int) : Int := bits .and .i64 (wrap64 (b6 (b5 (b4 (b3 (b2 (b1 x))))))) 127
theorem ones_table : ((List.range 2049).all fun n => (ones (n : Int) == 1) == decide (pw (n : Int) ∨ n = 1)) = true := by decide +kernel
theorem ones_pw (n : Nat) (h1 : 2 ≤ n) (h2 : n ≤ 2048) : (ones (n : Int) == 1) = decide (pw (n : Int)) := by
  have h := List.all_eq_true.1 ones_table n (List.mem_range.2 (by omega))
  rw [beq_iff_eq] at h
  rw [h]
  refine decide_eq_decide.2 ⟨fun h => ?_, .inl⟩
  rcases h with h | h
  · exact h
  · omega
end Sb
theorem onescount64_any (n : Nat) (w : World) : Calls Tryz.prog 114 #[.int .u64 (n : Int)] w fun e w' => e = .returned (.int .i64 (Sb.ones n)) ∧ w = w' := by
  go_enter Tryz.func114, Tryz.ntmps114
  go_wp2
  go_ret
  exact ⟨rfl, rfl⟩
theorem onescount_any (n : Nat) (h1 : 2 ≤ n) (h2 : n ≤ 2048) (w : World) : Calls Tryz.prog 97 #[.int .u64 (n : Int)] w fun e w' => (∃ r : Int, e = .returned (.int .i64 r) ∧ (r == 1) = decide (Sb.pw (n : Int))) ∧ w = w' := by
  have HC := Lib.hid (onescount64_any n w)
  have HE := Lib.hid (Sb.ones_pw n h1 h2)
  generalize Sb.ones (n : Int) = r at *
  generalize decide (Sb.pw (n : Int)) = t at *
  clear h1 h2
  go_enter Tryz.func97, Tryz.ntmps97
  go_wp2_with fail
  refine HC.out.mono ?_
  rintro e w' ⟨rfl, rfl⟩
  go_wp2
  go_ret
  exact ⟨⟨r, rfl, HE.out⟩, rfl⟩
end Go.Proofs.YtgnbmmceffolmaaGreatDoor
end
section
namespace Go.Proofs.YtgnbmmceffolmaaGreatDoor
open Go.RowKit
namespace Sb
/-- A superblock as a value, its foreign layouts a slice. -/
def cells (s : S) (A : Option Addr) (n c : Nat) : Array Value := #[.int .i64 s.gen, .int .i64 s.phase, .int .i64 s.mig, .int .i64 s.tail, .int .i64 s.now, .int .i64 s.t.id, .int .i64 s.t.ver, .int .i64 s.t.rs, .int .i64 s.t.reg, .int .i64 s.h.id, .int .i64 s.h.ver, .int .i64 s.h.rs, .int .i64 s.h.reg, .slice A n c]
def val (s : S) (A : Option Addr) (n c : Nat) : Value := .agg (cells s A n c)
end Sb
/-- Layouts read through a slice, below block B. -/
def Ls (w : World) (B : Nat) (A : Option Addr) (f : List Sb.L) : Prop := ∀ k, k < f.length → ∃ ad, A = some ad ∧ ad.block < B ∧ w.cell? (ad.add (k * 4)) = some (.int .i64 (f.getD k Sb.L0).id) ∧ w.cell? (ad.add (k * 4 + 1)) = some (.int .i64 (f.getD k Sb.L0).ver) ∧ w.cell? (ad.add (k * 4 + 2)) = some (.int .i64 (f.getD k Sb.L0).rs) ∧ w.cell? (ad.add (k * 4 + 3)) = some (.int .i64 (f.getD k Sb.L0).reg)
theorem Ls.below {B C : Nat} {w w' : World} {A : Option Addr} {f : List Sb.L} (h : Ls w B A f) (hb : Below C w w') (hB : B ≤ C) : Ls w' B A f := fun k hk => by
  obtain ⟨ad, h1, h2, h3, h4, h5, h6⟩ := h k hk
  exact ⟨ad, h1, h2, (hb.cell (by rw [add_block]; omega)).trans h3, (hb.cell (by rw [add_block]; omega)).trans h4, (hb.cell (by rw [add_block]; omega)).trans h5, (hb.cell (by rw [add_block]; omega)).trans h6⟩
theorem Ls.heap {B : Nat} {w w' : World} {A : Option Addr} {f : List Sb.L} (h : Ls w B A f) (e : w'.heap = w.heap) : Ls w' B A f := fun k hk => by
  obtain ⟨ad, h1, h2, h3, h4, h5, h6⟩ := h k hk
  have q : ∀ x, w'.cell? x = w.cell? x := fun x => World.cell?_of_block (by rw [e])
  exact ⟨ad, h1, h2, (q _).trans h3, (q _).trans h4, (q _).trans h5, (q _).trans h6⟩
theorem Ls.more {B C : Nat} {w : World} {A : Option Addr} {f : List Sb.L} (h : Ls w B A f) (hB : B ≤ C) : Ls w C A f := fun k hk => by
  obtain ⟨ad, h1, h2, h3⟩ := h k hk
  exact ⟨ad, h1, by omega, h3⟩
theorem Ls.nil {B : Nat} {w : World} {A : Option Addr} : Ls w B A [] := fun k hk => absurd hk (by simp)
/-- Layouts that are short enough to be read whole: as many as the slice has. -/
def SbAt (w : World) (B : Nat) (s : Sb.S) (A : Option Addr) (n c : Nat) : Prop := SlIs A n c ∧ s.f.length = n ∧ Ls w B A s.f
theorem SbAt.below {B C : Nat} {w w' : World} {s : Sb.S} {A : Option Addr} {n c : Nat} (h : SbAt w B s A n c) (hb : Below C w w') (hB : B ≤ C) : SbAt w' B s A n c := ⟨h.1, h.2.1, h.2.2.below hb hB⟩
theorem SbAt.more {B C : Nat} {w : World} {s : Sb.S} {A : Option Addr} {n c : Nat} (h : SbAt w B s A n c) (hB : B ≤ C) : SbAt w C s A n c := ⟨h.1, h.2.1, h.2.2.more hB⟩
end Go.Proofs.YtgnbmmceffolmaaGreatDoor
end
section
namespace Go.Proofs.YtgnbmmceffolmaaGreatDoor
open Go.RowKit
namespace Sb
/-- 1 << k, as the walk writes it. -/
def P (k : Nat) : Int := ((2 : Int) ^ min k 64 + 9223372036854775808) % 18446744073709551616 - 9223372036854775808
theorem P_is (k : Nat) (h : k < 12) : wrap64 (2 ^ k) = P k := by simp only [wrap64, P]; rw [Nat.min_eq_left (by omega)]
def lg (n : Int) : Int := if n = 1 then 0 else if pw n then (ex n : Int) else -1
theorem lg_table : ∀ k : Nat, k < 12 → lg (P k) = (k : Int) := by decide
theorem lg_hit {n : Int} {k : Nat} (hk : k < 12) (h : n = P k) : lg n = (k : Int) := by
  rw [h]
  exact lg_table k hk
theorem lg_miss {n : Int} (h : ∀ j, j < 12 → n ≠ P j) : lg n = -1 := by
  unfold lg
  have h0 : n ≠ 1 := fun e => h 0 (by decide) (e.trans (by decide))
  rw [if_neg h0, if_neg]
  intro hp
  unfold pw at hp
  rcases hp with rfl | rfl | rfl | rfl | rfl | rfl | rfl | rfl | rfl | rfl | rfl
  · exact h 1 (by decide) (by decide)
  · exact h 2 (by decide) (by decide)
  · exact h 3 (by decide) (by decide)
  · exact h 4 (by decide) (by decide)
  · exact h 5 (by decide) (by decide)
  · exact h 6 (by decide) (by decide)
  · exact h 7 (by decide) (by decide)
  · exact h 8 (by decide) (by decide)
  · exact h 9 (by decide) (by decide)
  · exact h 10 (by decide) (by decide)
  · exact h 11 (by decide) (by decide)
theorem lg_pw (n : Int) : decide (1 ≤ lg n) = decide (pw n) := by
  unfold lg
  by_cases h1 : n = 1
  · subst h1; decide
  · rw [if_neg h1]
    by_cases hp : pw n
    · rw [if_pos hp, decide_eq_true hp, decide_eq_true (by have := pw_ex hp; omega)]
    · rw [if_neg hp, decide_eq_false hp]; rfl
end Sb
theorem sblog_any (n : Int) (w : World) : Calls Tryz.prog 89 #[.int .i64 n] w fun e w' => e = .returned (.int .i64 (Sb.lg n)) ∧ w = w' := by
  go_enter Tryz.func89, Tryz.ntmps89
  go_wp2
  go_loop [3] (fun kv => ∃ k : Nat, k ≤ 12 ∧ kv = .int .i64 k ∧ Hid (∀ j, j < k → n ≠ Sb.P j)) (fun kv => 12 - (intOf kv).toNat)
  case atStart => exact ⟨0, Nat.zero_le _, rfl, fun j hj => absurd hj (by omega)⟩
  case round =>
    obtain ⟨k, hk, rfl, hz⟩ := hrel
    by_cases hlt : k < 12
    · have hd : decide ((k : Int) < 12) = true := by simp; omega
      by_cases he : n = wrap64 (2 ^ k)
      · have hq : (n == wrap64 (2 ^ k)) = true := by rw [beq_iff_eq]; exact he
        have hh := Lib.hid (Sb.lg_hit hlt (he.trans (Sb.P_is k hlt)))
        clear he
        go_wp2
        go_ret
        rw [hh.out]
        exact ⟨rfl, rfl⟩
      · have hq : (n == wrap64 (2 ^ k)) = false := by rw [beq_eq_false_iff_ne]; exact he
        have HN : Hid (n ≠ Sb.P k) := by rw [Sb.P_is k hlt] at he; exact he
        clear he
        go_wp2
        go_round
        case rel =>
          refine ⟨k + 1, by omega, by go_num, fun j hj => ?_⟩
          rcases Nat.lt_or_ge j k with h | h
          · exact hz.out j h
          · obtain rfl : j = k := by omega
            exact HN.out
        case measure => simp [intOf]; omega
    · obtain rfl : k = 12 := by omega
      have hh := Lib.hid (Sb.lg_miss hz.out)
      go_wp2
      go_ret
      rw [hh.out]
      exact ⟨rfl, rfl⟩
end Go.Proofs.YtgnbmmceffolmaaGreatDoor
end
section
namespace Go.Proofs.YtgnbmmceffolmaaGreatDoor
open Go.RowKit
theorem sbwithin_any (n a b : Int) (w : World) : Calls Tryz.prog 96 #[.int .i64 n, .int .i64 a, .int .i64 b] w fun e w' => e = .returned (.bool (decide (a ≤ n ∧ n ≤ b))) ∧ w = w' := by
  rw [Bool.decide_and]
  cases ha : decide (a ≤ n)
  all_goals
    go_enter Tryz.func96, Tryz.ntmps96
    go_wp2
    go_ret
    exact ⟨ret_bool (by simp), rfl⟩
theorem five_ways (t0 t1 t2 t3 : Bool) : t0 = false ∨ (t0 = true ∧ t1 = false) ∨ (t0 = true ∧ t1 = true ∧ t2 = false) ∨ (t0 = true ∧ t1 = true ∧ t2 = true ∧ t3 = false) ∨ (t0 = true ∧ t1 = true ∧ t2 = true ∧ t3 = true) := by
  cases t0 <;> cases t1 <;> cases t2 <;> cases t3 <;> simp
theorem sd_cells4 {w W : World} {a b c d : Value} {t : TypeId} (h : Sd w w.heap.size (.cells #[a, b, c, d] t (0, 0)) W) : W.cell? ⟨w.heap.size, 0, none⟩ = some a ∧ W.cell? ⟨w.heap.size, 1, none⟩ = some b ∧ W.cell? ⟨w.heap.size, 2, none⟩ = some c ∧ W.cell? ⟨w.heap.size, 3, none⟩ = some d := four_cells h.1
set_option maxHeartbeats 1000000 in
theorem sbform_any (a b c d : Int) (w : World) :
    Calls Tryz.prog 66 #[.agg #[.int .i64 a, .int .i64 b, .int .i64 c, .int .i64 d]] w fun r w' => r = .returned (.bool (decide (Sb.form ⟨a, b, c, d⟩))) ∧ Below w.heap.size w w' := by
  have HV : Hid (decide (Sb.form ⟨a, b, c, d⟩) = (decide (1 ≤ a ∧ a ≤ 4294967295) && (decide (1 ≤ b ∧ b ≤ 2) && (decide (2 ≤ c ∧ c ≤ 2048) && (decide (Sb.pw c) && decide (4 ≤ d ∧ d ≤ 16)))))) := by
    show _ = _
    simp only [← Bool.decide_and]
    refine decide_eq_decide.2 ⟨fun h => ?_, fun h => ?_⟩
    · exact ⟨h.1, h.2.1, Sb.pw_le h.2.2.1, h.2.2.1, h.2.2.2⟩
    · exact ⟨h.1, h.2.1, h.2.2.2.1, h.2.2.2.2⟩
  rw [HV.out]
  clear HV
  have C0 := Lib.hid (fun W => sbwithin_any a 1 4294967295 W)
  have C1 := Lib.hid (fun W => sbwithin_any b 1 2 W)
  have C2 := Lib.hid (fun W => sbwithin_any c 2 2048 W)
  have C4 := Lib.hid (fun W => sbwithin_any d 4 16 W)
  have C3 : Hid (decide (2 ≤ c ∧ c ≤ 2048) = true → IntKind.u64.wrap c = c ∧ ∀ W, Calls Tryz.prog 97 #[.int .u64 c] W fun e w' => (∃ r : Int, e = .returned (.int .i64 r) ∧ (r == 1) = decide (Sb.pw c)) ∧ W = w') := fun h => by
    have h2 := of_decide_eq_true h
    obtain ⟨n, rfl⟩ := Int.eq_ofNat_of_zero_le (a := c) (by omega)
    exact ⟨by rw [IntKind.wrap_u64]; omega, fun W => onescount_any n (by omega) (by omega) W⟩
  generalize decide (1 ≤ a ∧ a ≤ 4294967295) = t0 at *
  generalize decide (1 ≤ b ∧ b ≤ 2) = t1 at *
  generalize decide (2 ≤ c ∧ c ≤ 2048) = t2 at *
  generalize decide (Sb.pw c) = t3 at *
  generalize decide (4 ≤ d ∧ d ≤ 16) = t4 at *
  have HS0 := Lib.hid (sd_new w #[.int .i64 a, .int .i64 b, .int .i64 c, .int .i64 d] 29)
  rcases five_ways t0 t1 t2 t3 with rfl | ⟨rfl, rfl⟩ | ⟨rfl, rfl, rfl⟩ | ⟨rfl, rfl, rfl, rfl⟩ | ⟨rfl, rfl, rfl, rfl⟩
  all_goals
    try obtain ⟨hw, hoc⟩ := C3.out rfl
    try have HO := Lib.hid hoc
    try clear hoc
    clear C3
    go_enter Tryz.func66, Tryz.ntmps66
    go_upto_region 1 with fail
    generalize w.alloc (.cells #[.int .i64 a, .int .i64 b, .int .i64 c, .int .i64 d] 29) = w0 at *
    obtain ⟨z0, z1, z2, z3⟩ := sd_cells4 HS0.out
    go_wp2_with (first
      | (go_at_call 96; first
          | (with_reducible refine (C0.out _).mono ?_; rintro r w' ⟨rfl, rfl⟩)
          | (with_reducible refine (C1.out _).mono ?_; rintro r w' ⟨rfl, rfl⟩)
          | (with_reducible refine (C2.out _).mono ?_; rintro r w' ⟨rfl, rfl⟩)
          | (with_reducible refine (C4.out _).mono ?_; rintro r w' ⟨rfl, rfl⟩))
      | (go_at_call 97; refine (HO.out _).mono ?_; rintro r w' ⟨⟨r0, rfl, hr0⟩, rfl⟩))
    go_ret
    exact ⟨rfl, HS0.out.2⟩
set_option maxHeartbeats 1000000 in
theorem refsbform_any (a b c d : Int) (w : World) :
    Calls Tryz.prog 54 #[.agg #[.int .i64 a, .int .i64 b, .int .i64 c, .int .i64 d]] w fun r w' => r = .returned (.bool (decide (Sb.form ⟨a, b, c, d⟩))) ∧ Below w.heap.size w w' := by
  have HL := Lib.hid (fun W => sblog_any c W)
  have HQ := Lib.hid (Sb.lg_pw c)
  have HV : Hid (Sb.form ⟨a, b, c, d⟩ ↔ ((1 ≤ a ∧ a ≤ 4294967295) ∧ (1 ≤ b ∧ b ≤ 2) ∧ Sb.pw c ∧ (4 ≤ d ∧ d ≤ 16))) := Iff.rfl
  rw [show decide (Sb.form ⟨a, b, c, d⟩) = decide ((1 ≤ a ∧ a ≤ 4294967295) ∧ (1 ≤ b ∧ b ≤ 2) ∧ Sb.pw c ∧ (4 ≤ d ∧ d ≤ 16)) from decide_eq_decide.2 HV.out]
  clear HV
  generalize Sb.lg c = q at *
  have hpq : Sb.pw c ↔ 1 ≤ q := (decide_eq_decide.1 HQ.out).symm
  rw [show decide ((1 ≤ a ∧ a ≤ 4294967295) ∧ (1 ≤ b ∧ b ≤ 2) ∧ Sb.pw c ∧ (4 ≤ d ∧ d ≤ 16)) = decide ((1 ≤ a ∧ a ≤ 4294967295) ∧ (1 ≤ b ∧ b ≤ 2) ∧ 1 ≤ q ∧ (4 ≤ d ∧ d ≤ 16)) from decide_eq_decide.2 (show ((1 ≤ a ∧ a ≤ 4294967295) ∧ (1 ≤ b ∧ b ≤ 2) ∧ Sb.pw c ∧ (4 ≤ d ∧ d ≤ 16)) ↔ ((1 ≤ a ∧ a ≤ 4294967295) ∧ (1 ≤ b ∧ b ≤ 2) ∧ 1 ≤ q ∧ (4 ≤ d ∧ d ≤ 16)) by rw [hpq])]
  clear HQ hpq
  have HS0 := Lib.hid (sd_new w #[.int .i64 a, .int .i64 b, .int .i64 c, .int .i64 d] 29)
  go_enter Tryz.func54, Tryz.ntmps54
  go_upto_region 1 with fail
  generalize w.alloc (.cells #[.int .i64 a, .int .i64 b, .int .i64 c, .int .i64 d] 29) = w0 at *
  obtain ⟨z0, z1, z2, z3⟩ := sd_cells4 HS0.out
  go_wp2_with (go_at_call 89; refine (HL.out _).mono ?_; rintro r w' ⟨rfl, rfl⟩)
  all_goals
    go_ret
    refine ⟨ret_bool ?_, HS0.out.2⟩
    first
      | exact (decide_eq_false (by omega)).symm
      | exact (decide_eq_true (by omega)).symm
      | exact decide_eq_decide.2 (by omega)
      | (simp only [eq_comm (a := false), Bool.and_eq_false_iff, decide_eq_false_iff_not]; omega)
end Go.Proofs.YtgnbmmceffolmaaGreatDoor
end
section
namespace Go.Proofs.YtgnbmmceffolmaaGreatDoor
open Go.RowKit
theorem at_field (ad : Addr) (j i : Nat) (h : 0 < i) : ad.add (j + i) = ⟨(ad.add j).block, (ad.add j).off + i, none⟩ := by
  unfold Addr.add
  by_cases hj : j = 0 <;> simp [hj, Nat.add_assoc] <;> omega
/-- The cells of one layout of a slice, as a load spells them. -/
theorem Ls.at {B : Nat} {w : World} {ad : Addr} {f : List Sb.L} (h : Ls w B (some ad) f) (k : Nat) (hk : k < f.length) (a b c d : Int) (e : f.getD k Sb.L0 = ⟨a, b, c, d⟩) :
    w.cell? (ad.add (k * 4)) = some (.int .i64 a) ∧ w.cell? ⟨(ad.add (k * 4)).block, (ad.add (k * 4)).off + 1, none⟩ = some (.int .i64 b) ∧ w.cell? ⟨(ad.add (k * 4)).block, (ad.add (k * 4)).off + 2, none⟩ = some (.int .i64 c) ∧ w.cell? ⟨(ad.add (k * 4)).block, (ad.add (k * 4)).off + 3, none⟩ = some (.int .i64 d) := by
  obtain ⟨ad', e1, _, h0, h1, h2, h3⟩ := h k hk
  injection e1 with e1
  subst e1
  rw [e] at h0 h1 h2 h3
  rw [at_field _ _ _ (by decide)] at h1 h2 h3
  exact ⟨h0, h1, h2, h3⟩
end Go.Proofs.YtgnbmmceffolmaaGreatDoor
end
section
namespace Go.Proofs.YtgnbmmceffolmaaGreatDoor
open Go.RowKit
end Go.Proofs.YtgnbmmceffolmaaGreatDoor
end
section
namespace Go.Proofs.YtgnbmmceffolmaaGreatDoor
open Go
section
variable {P : Program} {ops : Array Oper} {Q : Exit → Act → World → Prop} {md : Region.Mode} {S : World → Prop}
/-- What yields in every world that meets S. -/
theorem held_take {i : Nat} {oi : Oper} {v : Value} {d : Option Tmp} {n : Nat} {ls : Array Bool} {a : Act} {w : World} (hi : ops[i]? = some oi) (hd : oi.dst = d) (hs : Region.noSelect ops = true) (hf : Region.free md ops ls i = true) (hr : (Region.ready md ops ls).contains i = true)
    (hQ : ∀ c a w, Q (.panic c) (a.put d v) w → Q (.panic c) a w) (hS : S w) (hy : Region.wanted oi (yielded ops a.tmps) = true ∧ ∀ w, S w → (execOp a.eval oi).run P w = .ok (.value v) w)
    (h : wpAnyH P md ops Q S n (ls.setIfInBounds i true) (a.put d v) w) : wpAnyH P md ops Q S (n + 1) ls a w := by
  subst hd
  exact wpAnyH_take hi hs hf hr hQ (Or.inl hy) hS h
/-- What is not carried out. -/
theorem held_skip {i : Nat} {oi : Oper} {d : Option Tmp} {n : Nat} {ls : Array Bool} {a : Act} {w : World} (hi : ops[i]? = some oi) (hd : oi.dst = d) (hs : Region.noSelect ops = true) (hf : Region.free md ops ls i = true) (hr : (Region.ready md ops ls).contains i = true)
    (hQ : ∀ c a w, Q (.panic c) (a.put d undef) w → Q (.panic c) a w) (hS : S w) (hy : Region.wanted oi (yielded ops a.tmps) = false)
    (h : wpAnyH P md ops Q S n (ls.setIfInBounds i true) (a.put d undef) w) : wpAnyH P md ops Q S (n + 1) ls a w := by
  subst hd
  exact wpAnyH_take hi hs hf hr hQ (Or.inr ⟨hy, rfl⟩) hS h
/-- The one that may come up is carried out. -/
theorem held_step {i : Nat} {oi : Oper} {n : Nat} {ls : Array Bool} {a : Act} {w : World} (hi : ops[i]? = some oi) (hr : Region.ready md ops ls = [i]) (hw : Region.wanted oi (yielded ops a.tmps) = true)
    (h : ∀ K : Act → World → Prop, (∀ b u, S u → wpAnyH P md ops Q S n (ls.setIfInBounds i true) b u → K b u) → Oper.wp P oi a w K Q) : wpAnyH P md ops Q S (n + 1) ls a w := by
  refine ⟨fun e => (by rw [hr] at e; cases e), fun j hj => ?_⟩
  rw [hr] at hj
  obtain rfl : j = i := by simpa using hj
  refine wpOp_step hi fun K hK => ?_
  rw [if_pos hw]
  exact h K fun b u hS hb => hK b u ⟨hS, hb⟩
end
end Go.Proofs.YtgnbmmceffolmaaGreatDoor
end
section
namespace Go.Proofs.YtgnbmmceffolmaaGreatDoor
open Go.RowKit
end Go.Proofs.YtgnbmmceffolmaaGreatDoor
end
section
namespace Go.Proofs.YtgnbmmceffolmaaGreatDoor
open Go.RowKit
theorem Ps.far {w W W' : World} {lo g gi r : Nat} {bad : Bool} {l : List Nat} (h : Ps w lo g gi bad l W) (hg : W.grownBy W' (some r)) (hr : gi < r) : Ps w lo g gi bad l W' := by
  have hgi := (Array.getElem?_eq_some_iff.1 h.2.1).1
  refine ⟨h.1.grown hg (fun b e => .inr (by injection e with e; have := h.2.2.2.2; omega)), (hg.block gi hgi (fun e => by injection e with e; omega)).trans h.2.1, h.2.2.1.trans (below_of_grown hg (by have := h.2.2.2; omega) h.2.2.1.size), h.2.2.2⟩
end Go.Proofs.YtgnbmmceffolmaaGreatDoor
end
section
namespace Go.Proofs.YtgnbmmceffolmaaGreatDoor
open Go.RowKit
theorem num_at (l : List Nat) (i : Nat) (h : i < l.length) : Wire.num ((l.drop i).take 1) = l.getD i 0 := by
  have e : (l.drop i).take 1 = [l.getD i 0] := by
    rw [List.take_one, List.head?_drop, List.getElem?_eq_getElem h, List.getD_eq_getElem?_getD, List.getElem?_eq_getElem h]; rfl
  rw [e]; simp [Wire.num]
end Go.Proofs.YtgnbmmceffolmaaGreatDoor
end
end
section
namespace Go.Proofs.YtgnbmmceffolmaaGreatDoor
namespace Gm
open Sb
/-- Has the layout that slot? -/
def has (l : L) (s : Int) : Prop := form l ∧ 0 ≤ s ∧ s < l.reg
instance (l : L) (s : Int) : Decidable (has l s) := by unfold has; infer_instance
/-- The sector where a slot begins. -/
def spot (l : L) (s : Int) : Int := 74 + s * l.rs
def first (l : L) (s : Int) : Int := if has l s then spot l s else -1
def cap (l : L) : Int := if form l then (l.rs - 1) * 59 else 0
def fits (l : L) (n : Int) : Prop := form l ∧ spot l l.reg ≤ n
instance (l : L) (n : Int) : Decidable (fits l n) := by unfold fits; infer_instance
/-- Have the slot i of a and the slot k of b a sector in common? -/
def over (a : L) (i : Int) (b : L) (k : Int) : Prop := has a i ∧ has b k ∧ spot a i < spot b (k + 1) ∧ spot b k < spot a (i + 1)
instance (a : L) (i : Int) (b : L) (k : Int) : Decidable (over a i b k) := by unfold over; infer_instance
/-- A region: its header's numbers and its layout. -/
structure R where
  ver : Int
  slot : Int
  lay : Int
  seq : Int
  tail : Int
  now : Int
  l : L
def taken (l : L) (s : Int) (live : List R) : Bool := live.any fun r => decide (over l s r.l r.slot)
/-- The free ones of the first n slots. -/
def freeTo (t : L) (live : List R) (n : Nat) : List Nat := (List.range n).filter fun s => !taken t (s : Int) live
def free (t : L) (live : List R) : List Nat := if form t then freeTo t live t.reg.toNat else []
theorem form_nums {l : L} (h : form l) : 2 ≤ l.rs ∧ l.rs ≤ 2048 ∧ 4 ≤ l.reg ∧ l.reg ≤ 16 := by
  obtain ⟨-, -, h3, h4⟩ := h
  have := pw_le h3
  exact ⟨this.1, this.2, h4.1, h4.2⟩
theorem prod_small {s r : Int} (hs : 0 ≤ s) (hs2 : s ≤ 16) (hr : 2 ≤ r) (hr2 : r ≤ 2048) : 0 ≤ s * r ∧ s * r ≤ 32768 := by
  have h1 : s * r ≤ 16 * r := Int.mul_le_mul_of_nonneg_right hs2 (by omega)
  have h2 : 0 ≤ s * r := Int.mul_nonneg hs (by omega)
  omega
theorem spot_small {l : L} (h : form l) {s : Int} (h0 : 0 ≤ s) (h1 : s ≤ l.reg) : 0 ≤ s * l.rs ∧ s * l.rs ≤ 32768 := by
  obtain ⟨a, b, c, d⟩ := form_nums h
  exact prod_small h0 (by omega) a b
/-- The sectors of a slot, in order. -/
def secs (l : L) (s : Int) (n : Nat) : List Int := (List.range n).map fun (i : Nat) => spot l s + (i : Int)
theorem secs_next (l : L) (s : Int) (n : Nat) : secs l s (n + 1) = secs l s n ++ [spot l s + (n : Int)] := by
  unfold secs; rw [List.range_succ, List.map_append]; rfl
theorem secs_length (l : L) (s : Int) (n : Nat) : (secs l s n).length = n := by unfold secs; rw [List.length_map, List.length_range]
theorem secs_at (l : L) (s : Int) (n k : Nat) (h : k < n) : (secs l s n).getD k 0 = spot l s + (k : Int) := by
  unfold secs
  rw [List.getD_eq_getElem?_getD, List.getElem?_map, List.getElem?_range h]; rfl
/-- The sectors of a slot, if there is one. -/
def sectors (l : L) (s : Int) : List Int := if has l s then secs l s l.rs.toNat else []
end Gm
end Go.Proofs.YtgnbmmceffolmaaGreatDoor
end
section
namespace Go.Proofs.YtgnbmmceffolmaaGreatDoor
namespace Pk
open Sb
/-- Can there be a packer? -/
def ok (l : L) (slot seq : Int) : Prop := Gm.has l slot ∧ 1 ≤ seq ∧ seq ≤ 281474976710655
instance (l : L) (slot seq : Int) : Decidable (ok l slot seq) := by unfold ok; infer_instance
def may (l : L) (slot seq : Int) : Int := if form l then (if ok l slot seq then 0 else 2) else 4
/-- How many bytes the stream can have. -/
def cap (l : L) : Nat := ((l.rs - 1) * 59).toNat
/-- The sector of a frame, the frame. -/
def sec (l : L) (slot : Int) (i : Nat) : Int := Gm.spot l slot + 1 + (i : Int)
def frame (l : L) (slot seq : Int) (st : List Nat) (i : Nat) : List Nat := Fr.enc 2 seq (sec l slot i) (Rc.sub st (i * 59) 59)
def full (st : List Nat) : Nat := st.length / 59
def secs (l : L) (slot : Int) (k n : Nat) : List Int := (List.range' k n).map (sec l slot)
def frames (l : L) (slot seq : Int) (st : List Nat) (k n : Nat) : List (List Nat) := (List.range' k n).map (frame l slot seq st)
def pad (st : List Nat) : List Nat := st ++ List.replicate ((59 - st.length % 59) % 59) 0
/-- The first error of Put. -/
def err (l : L) (st : List Nat) (r : Rc.Rec) : Int := if Rc.check l.ver r ≠ 0 then Rc.check l.ver r else if cap l < st.length + Rc.len r then 8 else 0
def put (l : L) (seq : Int) (st : List Nat) (r : Rc.Rec) : List Nat := if err l st r = 0 then st ++ Rc.enc l.ver seq st.length r else st
/-- A stream of this packer, of which k frames were taken. -/
structure Fit (l : L) (slot seq : Int) (st : List Nat) (k : Nat) : Prop where
  ok : ok l slot seq
  lt : ∀ x ∈ st, x < 256
  le : st.length ≤ cap l
  full : k ≤ full st
section
variable {l : L} {slot seq : Int} {st : List Nat} {k : Nat}
theorem may_zero (h : ok l slot seq) : may l slot seq = 0 := by unfold may; rw [if_pos h.1.1, if_pos h]
theorem may_ne (h : ¬ ok l slot seq) : may l slot seq ≠ 0 := by unfold may; split <;> simp_all
theorem cap_eq (h : form l) : Gm.cap l = (cap l : Int) ∧ cap l % 59 = 0 ∧ cap l ≤ 120773 ∧ 59 ≤ cap l := by
  obtain ⟨h1, h2, -, -⟩ := Gm.form_nums h
  unfold Gm.cap cap
  rw [if_pos h]
  omega
theorem first_eq (h : ok l slot seq) : Gm.first l slot = Gm.spot l slot := if_pos h.1
theorem spot_le (h : ok l slot seq) : 74 ≤ Gm.spot l slot ∧ Gm.spot l slot ≤ 32842 := by
  have := Gm.spot_small h.1.1 h.1.2.1 (Int.le_of_lt h.1.2.2)
  unfold Gm.spot
  omega
theorem Fit.start (h : Pk.ok l slot seq) : Fit l slot seq [] 0 := ⟨h, fun _ h => (by cases h), Nat.zero_le _, Nat.zero_le _⟩
theorem Fit.short (h : Fit l slot seq st k) : st.length ≤ 120773 := Nat.le_trans h.le (cap_eq h.ok.1.1).2.2.1
theorem full_le (h : Fit l slot seq st k) : Pk.full st ≤ 2047 := by
  have := h.short
  unfold Pk.full
  omega
theorem Fit.take (h : Fit l slot seq st k) {i : Nat} (hi : i ≤ Pk.full st) : Fit l slot seq st i := ⟨h.ok, h.lt, h.le, hi⟩
theorem pad_length (st : List Nat) : (pad st).length = st.length + (59 - st.length % 59) % 59 := by unfold pad; rw [List.length_append, List.length_replicate]
theorem pad_mod (st : List Nat) : (pad st).length % 59 = 0 := by rw [pad_length]; omega
theorem Fit.pad (h : Fit l slot seq st k) : Fit l slot seq (pad st) k := by
  have hl := pad_length st
  have hc := cap_eq h.ok.1.1
  refine ⟨h.ok, fun x hx => ?_, ?_, ?_⟩
  · unfold Pk.pad at hx
    rcases List.mem_append.1 hx with hx | hx
    · exact h.lt x hx
    · rw [(List.mem_replicate.1 hx).2]; decide
  · have := h.le
    omega
  · refine Nat.le_trans h.full ?_
    unfold Pk.full
    omega
theorem err_zero {r : Rc.Rec} : err l st r = 0 ↔ Rc.check l.ver r = 0 ∧ st.length + Rc.len r ≤ cap l := by
  unfold err
  split
  · next h => exact ⟨fun e => absurd e h, fun e => absurd e.1 h⟩
  · next h =>
    have h := Decidable.not_not.1 h
    split
    · next h2 => exact ⟨(fun e => by cases e), fun e => by omega⟩
    · next h2 => exact ⟨fun _ => ⟨h, by omega⟩, fun _ => rfl⟩
theorem put_ok {r : Rc.Rec} (h : err l st r = 0) : put l seq st r = st ++ Rc.enc l.ver seq st.length r := if_pos h
theorem put_no {r : Rc.Rec} (h : err l st r ≠ 0) : put l seq st r = st := if_neg h
theorem put_more (l : L) (seq : Int) (st : List Nat) (r : Rc.Rec) : ∃ x, put l seq st r = st ++ x := by
  unfold put
  split
  · exact ⟨_, rfl⟩
  · exact ⟨[], (List.append_nil _).symm⟩
theorem Fit.put (h : Fit l slot seq st k) (r : Rc.Rec) (hk : ∀ x ∈ r.key, x < 256) (hv : ∀ x ∈ r.val, x < 256) : Fit l slot seq (put l seq st r) k := by
  by_cases he : err l st r = 0
  · rw [put_ok he]
    have h2 := (err_zero.1 he).2
    refine ⟨h.ok, fun x hx => ?_, ?_, Nat.le_trans h.full ?_⟩
    · rcases List.mem_append.1 hx with hx | hx
      · exact h.lt x hx
      · exact Rc.enc_lt _ _ _ _ hk hv x hx
    · rw [List.length_append, Rc.enc_length]; exact h2
    · unfold Pk.full
      rw [List.length_append]
      exact Nat.div_le_div_right (Nat.le_add_right _ _)
  · rw [put_no he]; exact h
theorem place_ok (h : Fit l slot seq st k) : Rc.place seq (st.length : Int) := ⟨by have := h.ok.2.1; omega, by omega, by have := h.short; omega⟩
/-- A part of a stream is there whatever comes behind. -/
theorem sub_more (st x : List Nat) (i n : Nat) (h : i + n ≤ st.length) : Rc.sub (st ++ x) i n = Rc.sub st i n := by
  unfold Rc.sub
  rw [List.drop_append_of_le_length (by omega), List.take_append_of_le_length (by rw [List.length_drop]; omega)]
theorem frame_more (st x : List Nat) (i : Nat) (h : i < Pk.full st) : frame l slot seq (st ++ x) i = frame l slot seq st i := by
  unfold Pk.full at h
  unfold frame
  rw [sub_more st x (i * 59) 59 (by omega)]
theorem secs_length (l : L) (slot : Int) (j n : Nat) : (secs l slot j n).length = n := by unfold secs; rw [List.length_map, List.length_range']
theorem frames_length (l : L) (slot seq : Int) (st : List Nat) (j n : Nat) : (frames l slot seq st j n).length = n := by unfold frames; rw [List.length_map, List.length_range']
theorem secs_next (l : L) (slot : Int) (j n : Nat) : secs l slot j (n + 1) = secs l slot j n ++ [sec l slot (j + n)] := by unfold secs; rw [List.range'_1_concat, List.map_append]; rfl
theorem frames_next (l : L) (slot seq : Int) (st : List Nat) (j n : Nat) : frames l slot seq st j (n + 1) = frames l slot seq st j n ++ [frame l slot seq st (j + n)] := by unfold frames; rw [List.range'_1_concat, List.map_append]; rfl
theorem frame_may (h : Fit l slot seq st k) {i : Nat} (hi : i < Pk.full st) : Fr.may 2 seq (sec l slot i) := by
  have h1 := spot_le h.ok
  have h2 := full_le h
  have h3 := h.ok.2
  unfold Fr.may sec
  omega
theorem frame_part (h : Fit l slot seq st k) {i : Nat} (hi : i < Pk.full st) : (Rc.sub st (i * 59) 59).length = 59 ∧ ∀ x ∈ Rc.sub st (i * 59) 59, x < 256 := by
  refine ⟨Rc.sub_length _ _ _ (by unfold Pk.full at hi; omega), fun x hx => h.lt x ?_⟩
  unfold Rc.sub at hx
  exact List.mem_of_mem_drop (List.mem_of_mem_take hx)
theorem frame_length (h : Fit l slot seq st k) {i : Nat} (hi : i < Pk.full st) : (frame l slot seq st i).length = 64 := Fr.enc_length _ _ _ _ (by rw [(frame_part h hi).1]; exact Nat.le_refl _)
theorem frame_lt (h : Fit l slot seq st k) {i : Nat} (hi : i < Pk.full st) : ∀ x ∈ frame l slot seq st i, x < 256 := Fr.enc_lt _ _ _ _ (by omega) (frame_part h hi).2
end
end Pk
end Go.Proofs.YtgnbmmceffolmaaGreatDoor
end
section
namespace Go.Proofs.YtgnbmmceffolmaaGreatDoor
open Go.RowKit
theorem gm_int {a b : Int} (h : a = b) : Ending.returned (.int .i64 a) = Ending.returned (.int .i64 b) := by rw [h]
set_option maxHeartbeats 1000000 in
theorem gmplace_any (a b c d s x : Int) (hx : 74 + s * c = x) (h0 : 0 ≤ s * c) (h1 : s * c ≤ 32768) (w : World) :
    Calls Tryz.prog 47 #[.agg #[.int .i64 a, .int .i64 b, .int .i64 c, .int .i64 d], .int .i64 s] w fun r w' => r = .returned (.int .i64 x) ∧ Below w.heap.size w w' := by
  have m1 : wrap64 (s * c) = s * c := by unfold wrap64; omega
  have m2 : wrap64 (74 + s * c) = 74 + s * c := by unfold wrap64; omega
  have HS0 := Lib.hid (sd_new w #[.int .i64 a, .int .i64 b, .int .i64 c, .int .i64 d] 29)
  subst hx
  go_enter Tryz.func47, Tryz.ntmps47
  go_upto_region 1 with fail
  generalize w.alloc (.cells #[.int .i64 a, .int .i64 b, .int .i64 c, .int .i64 d] 29) = w0 at *
  obtain ⟨z0, z1, z2, z3⟩ := sd_cells4 HS0.out
  go_wp2_with fail
  go_ret
  first
    | exact ⟨rfl, HS0.out.2⟩
    | exact ⟨gm_int (by rw [m1, m2]), HS0.out.2⟩
set_option maxHeartbeats 1000000 in
theorem gmhas_any (a b c d s : Int) (w : World) :
    Calls Tryz.prog 46 #[.agg #[.int .i64 a, .int .i64 b, .int .i64 c, .int .i64 d], .int .i64 s] w fun r w' => r = .returned (.bool (decide (Gm.has ⟨a, b, c, d⟩ s))) ∧ Below w.heap.size w w' := by
  have HV : Hid (decide (Gm.has ⟨a, b, c, d⟩ s) = (decide (Sb.form ⟨a, b, c, d⟩) && (decide (0 ≤ s) && decide (s < d)))) := by
    show _ = _
    simp only [← Bool.decide_and]
    rfl
  rw [HV.out]
  clear HV
  have CF := Lib.hid (fun W => sbform_any a b c d W)
  generalize decide (Sb.form ⟨a, b, c, d⟩) = t0 at *
  have HS0 := Lib.hid (sd_new w #[.int .i64 a, .int .i64 b, .int .i64 c, .int .i64 d] 29)
  cases t0
  · go_enter Tryz.func46, Tryz.ntmps46
    go_upto_region 1 with fail
    generalize w.alloc (.cells #[.int .i64 a, .int .i64 b, .int .i64 c, .int .i64 d] 29) = w0 at *
    obtain ⟨z0, z1, z2, z3⟩ := sd_cells4 HS0.out
    go_wp2_with fail
    refine (CF.out _).mono ?_
    rintro r w1 ⟨rfl, hb1⟩
    have HS1 := Lib.hid (HS0.out.next hb1 (by rfl) (by rfl) (by rfl) (by rfl))
    clear hb1
    obtain ⟨y0, y1, y2, y3⟩ := four_cells HS1.out.1
    go_wp2_with fail
    go_ret
    exact ⟨rfl, HS1.out.2⟩
  · cases hd : decide (0 ≤ s)
    all_goals
      go_enter Tryz.func46, Tryz.ntmps46
      go_upto_region 1 with fail
      generalize w.alloc (.cells #[.int .i64 a, .int .i64 b, .int .i64 c, .int .i64 d] 29) = w0 at *
      obtain ⟨z0, z1, z2, z3⟩ := sd_cells4 HS0.out
      go_wp2_with fail
      refine (CF.out _).mono ?_
      rintro r w1 ⟨rfl, hb1⟩
      have HS1 := Lib.hid (HS0.out.next hb1 (by rfl) (by rfl) (by rfl) (by rfl))
      clear hb1
      obtain ⟨y0, y1, y2, y3⟩ := four_cells HS1.out.1
      go_wp2_with fail
      go_ret
      exact ⟨rfl, HS1.out.2⟩
set_option maxHeartbeats 1000000 in
theorem gmfirst_any (a b c d s : Int) (w : World) :
    Calls Tryz.prog 21 #[.agg #[.int .i64 a, .int .i64 b, .int .i64 c, .int .i64 d], .int .i64 s] w fun r w' => r = .returned (.int .i64 (Gm.first ⟨a, b, c, d⟩ s)) ∧ Below w.heap.size w w' := by
  have CH := Lib.hid (fun W => gmhas_any a b c d s W)
  have HS0 := Lib.hid (sd_new w #[.int .i64 a, .int .i64 b, .int .i64 c, .int .i64 d] 29)
  by_cases hh : Gm.has ⟨a, b, c, d⟩ s
  · have HF : Hid (Gm.first ⟨a, b, c, d⟩ s = 74 + s * c) := if_pos hh
    rw [HF.out]
    have HQ : Hid (∀ W, Calls Tryz.prog 47 #[.agg #[.int .i64 a, .int .i64 b, .int .i64 c, .int .i64 d], .int .i64 s] W fun r w' => r = .returned (.int .i64 (74 + s * c)) ∧ Below W.heap.size W w') := fun W => by
      have h1 := Gm.spot_small hh.1 (s := s) hh.2.1 (Int.le_of_lt hh.2.2)
      exact gmplace_any a b c d s _ rfl h1.1 h1.2 W
    rw [decide_eq_true hh] at CH
    clear hh HF
    generalize 74 + s * c = x at *
    go_enter Tryz.func21, Tryz.ntmps21
    go_upto_region 1 with fail
    generalize w.alloc (.cells #[.int .i64 a, .int .i64 b, .int .i64 c, .int .i64 d] 29) = w0 at *
    obtain ⟨z0, z1, z2, z3⟩ := sd_cells4 HS0.out
    go_wp2_with fail
    refine (CH.out _).mono ?_
    rintro r w1 ⟨rfl, hb1⟩
    have HS1 := Lib.hid (HS0.out.next hb1 (by rfl) (by rfl) (by rfl) (by rfl))
    clear hb1
    obtain ⟨y0, y1, y2, y3⟩ := four_cells HS1.out.1
    go_wp2_with fail
    refine (HQ.out _).mono ?_
    rintro r w2 ⟨rfl, hb2⟩
    have HS2 := Lib.hid (HS1.out.next hb2 (by rfl) (by rfl) (by rfl) (by rfl))
    clear hb2
    go_wp2_with fail
    go_ret
    exact ⟨rfl, HS2.out.2⟩
  · have HF : Hid (Gm.first ⟨a, b, c, d⟩ s = -1) := if_neg hh
    rw [HF.out]
    rw [decide_eq_false hh] at CH
    clear hh HF
    go_enter Tryz.func21, Tryz.ntmps21
    go_upto_region 1 with fail
    generalize w.alloc (.cells #[.int .i64 a, .int .i64 b, .int .i64 c, .int .i64 d] 29) = w0 at *
    obtain ⟨z0, z1, z2, z3⟩ := sd_cells4 HS0.out
    go_wp2_with fail
    refine (CH.out _).mono ?_
    rintro r w1 ⟨rfl, hb1⟩
    have HS1 := Lib.hid (HS0.out.next hb1 (by rfl) (by rfl) (by rfl) (by rfl))
    clear hb1
    go_wp2_with fail
    go_ret
    exact ⟨rfl, HS1.out.2⟩
set_option maxHeartbeats 1000000 in
theorem gmcap_any (a b c d : Int) (w : World) :
    Calls Tryz.prog 34 #[.agg #[.int .i64 a, .int .i64 b, .int .i64 c, .int .i64 d]] w fun r w' => r = .returned (.int .i64 (Gm.cap ⟨a, b, c, d⟩)) ∧ Below w.heap.size w w' := by
  have CF := Lib.hid (fun W => sbform_any a b c d W)
  have HS0 := Lib.hid (sd_new w #[.int .i64 a, .int .i64 b, .int .i64 c, .int .i64 d] 29)
  by_cases hh : Sb.form ⟨a, b, c, d⟩
  · have HF : Hid (Gm.cap ⟨a, b, c, d⟩ = (c - 1) * 59) := if_pos hh
    have hc := Gm.form_nums hh
    simp only at hc
    rw [HF.out]
    have m1 : wrap64 (c - 1) = c - 1 := by unfold wrap64; omega
    have m2 : wrap64 ((c - 1) * 59) = (c - 1) * 59 := by unfold wrap64; omega
    rw [decide_eq_true hh] at CF
    clear hh HF hc
    go_enter Tryz.func34, Tryz.ntmps34
    go_upto_region 1 with fail
    generalize w.alloc (.cells #[.int .i64 a, .int .i64 b, .int .i64 c, .int .i64 d] 29) = w0 at *
    obtain ⟨z0, z1, z2, z3⟩ := sd_cells4 HS0.out
    go_wp2_with fail
    refine (CF.out _).mono ?_
    rintro r w1 ⟨rfl, hb1⟩
    have HS1 := Lib.hid (HS0.out.next hb1 (by rfl) (by rfl) (by rfl) (by rfl))
    clear hb1
    obtain ⟨y0, y1, y2, y3⟩ := four_cells HS1.out.1
    go_wp2_with fail
    go_ret
    first
      | exact ⟨rfl, HS1.out.2⟩
      | exact ⟨gm_int (by first | rw [m2] | rw [m1, m2]), HS1.out.2⟩
  · have HF : Hid (Gm.cap ⟨a, b, c, d⟩ = 0) := if_neg hh
    rw [HF.out]
    rw [decide_eq_false hh] at CF
    clear hh HF
    go_enter Tryz.func34, Tryz.ntmps34
    go_upto_region 1 with fail
    generalize w.alloc (.cells #[.int .i64 a, .int .i64 b, .int .i64 c, .int .i64 d] 29) = w0 at *
    obtain ⟨z0, z1, z2, z3⟩ := sd_cells4 HS0.out
    go_wp2_with fail
    refine (CF.out _).mono ?_
    rintro r w1 ⟨rfl, hb1⟩
    have HS1 := Lib.hid (HS0.out.next hb1 (by rfl) (by rfl) (by rfl) (by rfl))
    clear hb1
    go_wp2_with fail
    go_ret
    exact ⟨rfl, HS1.out.2⟩
end Go.Proofs.YtgnbmmceffolmaaGreatDoor
end
section
set_option maxRecDepth 100000
namespace Go.Proofs.YtgnbmmceffolmaaGreatDoor
open Go.RowKit
theorem arr_flat (c o k : Nat) : (⟨c, o, none⟩ : Addr).add k = ⟨c, o + k, none⟩ := by unfold Addr.add; split <;> simp_all
/-- How a thing lies in memory: its cells, and the thing of no cells that are written. -/
structure Shape (α : Type) where
  cs : α → List Value
  z : α
  m : Nat
  len : ∀ a, (cs a).length = m
  pos : 0 < m
  one : ∀ a, ∀ u ∈ cs a, u.oneCell' = true
section
variable {α : Type} {S : Shape α}
def Shape.flat (S : Shape α) (l : List α) : List Value := l.flatMap S.cs
theorem Shape.flat_length (l : List α) : (S.flat l).length = l.length * S.m := by
  induction l with
  | nil => exact (Nat.zero_mul _).symm
  | cons a t ih =>
    show (S.cs a ++ S.flat t).length = _
    rw [List.length_append, ih, List.length_cons, S.len, Nat.succ_mul, Nat.add_comm]
theorem Shape.flat_append (a b : List α) : S.flat (a ++ b) = S.flat a ++ S.flat b := by unfold Shape.flat; rw [List.flatMap_append]
theorem Shape.flat_one (a : α) : S.flat [a] = S.cs a := by unfold Shape.flat; rw [List.flatMap_cons, List.flatMap_nil, List.append_nil]
theorem Shape.flat_at : ∀ (l : List α) (k j : Nat), k < l.length → j < S.m → (S.flat l)[k * S.m + j]? = (S.cs (l.getD k S.z))[j]?
  | [], _, _, h, _ => absurd h (Nat.not_lt_zero _)
  | a :: t, 0, j, _, hj => by
    show (S.cs a ++ S.flat t)[0 * S.m + j]? = _
    rw [List.getElem?_append_left (by rw [S.len]; omega), Nat.zero_mul, Nat.zero_add]; rfl
  | a :: t, k + 1, j, h, hj => by
    show (S.cs a ++ S.flat t)[(k + 1) * S.m + j]? = _
    rw [List.getElem?_append_right (by rw [S.len, Nat.succ_mul]; omega), S.len, show (k + 1) * S.m + j - S.m = k * S.m + j by rw [Nat.succ_mul]; omega]
    exact Shape.flat_at t k j (by simpa using h) hj
/-- Things read through a slice, in blocks from lo on, below B. -/
def Arr (S : Shape α) (w : World) (lo B : Nat) (A : Option Addr) (l : List α) : Prop := ∀ k, k < l.length → ∃ ad, A = some ad ∧ lo ≤ ad.block ∧ ad.block < B ∧ ∀ j v, (S.cs (l.getD k S.z))[j]? = some v → w.cell? (ad.add (k * S.m + j)) = some v
variable {w w' : World} {lo B C : Nat} {A : Option Addr} {l : List α}
theorem Arr.below (h : Arr S w lo B A l) (hb : Below C w w') (hB : B ≤ C) : Arr S w' lo B A l := fun k hk => by
  obtain ⟨ad, h1, h2, h3, h4⟩ := h k hk
  exact ⟨ad, h1, h2, h3, fun j v e => (hb.cell (by rw [add_block]; omega)).trans (h4 j v e)⟩
theorem Arr.heap (h : Arr S w lo B A l) (e : w'.heap = w.heap) : Arr S w' lo B A l := fun k hk => by
  obtain ⟨ad, h1, h2, h3, h4⟩ := h k hk
  exact ⟨ad, h1, h2, h3, fun j v e' => (World.cell?_of_block (by rw [e])).trans (h4 j v e')⟩
theorem Arr.up (h : Arr S w lo B A l) (hB : B ≤ C) : Arr S w lo C A l := fun k hk => by
  obtain ⟨ad, h1, h2, h3, h4⟩ := h k hk
  exact ⟨ad, h1, h2, by omega, h4⟩
theorem Arr.down {lo' : Nat} (h : Arr S w lo B A l) (hl : lo' ≤ lo) : Arr S w lo' B A l := fun k hk => by
  obtain ⟨ad, h1, h2, h3, h4⟩ := h k hk
  exact ⟨ad, h1, by omega, h3, h4⟩
theorem Arr.take (h : Arr S w lo B A l) (n : Nat) : Arr S w lo B A (l.take n) := fun k hk => by
  rw [List.length_take] at hk
  obtain ⟨ad, h1, h2, h3, h4⟩ := h k (by omega)
  refine ⟨ad, h1, h2, h3, fun j v e => h4 j v ?_⟩
  rw [List.getD_eq_getElem?_getD, List.getElem?_take_of_lt (by omega), ← List.getD_eq_getElem?_getD] at e
  exact e
theorem Arr.nil : Arr S w lo B A [] := fun _ hk => absurd hk (Nat.not_lt_zero _)
theorem Arr.some {k : Nat} (h : Arr S w lo B A l) (hk : k < l.length) : ∃ ad, A = some ad := by
  obtain ⟨ad, e, _⟩ := h k hk
  exact ⟨ad, e⟩
theorem Arr.cell {ad : Addr} (h : Arr S w lo B (Option.some ad) l) (k : Nat) (hk : k < l.length) (j : Nat) (v : Value) (e : (S.cs (l.getD k S.z))[j]? = Option.some v) : w.cell? (ad.add (k * S.m + j)) = Option.some v := by
  obtain ⟨ad', e1, _, _, h4⟩ := h k hk
  injection e1 with e1
  subst e1
  exact h4 j v e
/-- A row of things of the call's own. -/
def ARow (S : Shape α) (t : TypeId) (w : World) (base : Nat) (v : Value) (n : Nat) (l : List α) : Prop := w.ownsRow base t S.m v n (S.flat l)
variable {t : TypeId} {base n : Nat} {v : Value}
theorem ARow.nil (w : World) (base : Nat) : ARow S t w base (.slice none 0 0) 0 [] := World.ownsRow_nil _ _ _ _
theorem ARow.length (h : ARow S t w base v n l) : l.length = n := by
  have := h.1
  rw [S.flat_length] at this
  exact Nat.eq_of_mul_eq_mul_right S.pos this
theorem ARow.open_ (h : ARow S t w base v n l) : ∃ A c, v = .slice A n c ∧ SlIs A n c ∧ Arr S w base w.heap.size A l := by
  have hl := h.length
  rcases h.2 with ⟨rfl, rfl⟩ | ⟨g, cap, cur, rfl, hb, hg, hnc, hcm, hsz, htk⟩
  · exact ⟨none, 0, rfl, ⟨fun _ => ⟨rfl, rfl⟩, Nat.le_refl _, by decide⟩, fun k hk => absurd hk (by omega)⟩
  · refine ⟨_, cap, rfl, ⟨(fun e => by cases e), hnc, by unfold maxLen at hcm; exact hcm⟩, fun k hk => ⟨_, rfl, hb, (Array.getElem?_eq_some_iff.1 hg).1, fun j x hx => ?_⟩⟩
    have hj : j < S.m := by
      rcases Nat.lt_or_ge j S.m with h | h
      · exact h
      · rw [List.getElem?_eq_none (by rw [S.len]; exact h)] at hx; cases hx
    exact h.cells (g := g) rfl (k * S.m + j) _ (by rw [S.flat_at _ _ _ hk hj]; exact hx)
theorem ARow.stays (h : ARow S t w base v n l) (hb : Below w.heap.size w w') : ARow S t w' base v n l := by
  refine ⟨h.1, ?_⟩
  rcases h.2 with h0 | ⟨g, cap, cur, h1, h2, h3, h4⟩
  · exact .inl h0
  · exact .inr ⟨g, cap, cur, h1, h2, (hb.block g (Array.getElem?_eq_some_iff.1 h3).1).trans h3, h4⟩
theorem ARow.made (h : ARow S t w base v n l) (o : Obj) : ARow S t (w.alloc o) base v n l := h.stays ((Below.refl _ w).alloc (Nat.le_refl _) _)
theorem ARow.heap (h : ARow S t w base v n l) (e : w'.heap = w.heap) : ARow S t w' base v n l := by
  refine ⟨h.1, ?_⟩
  rcases h.2 with h0 | ⟨g, cap, cur, h1, h2, h3, h4⟩
  · exact .inl h0
  · exact .inr ⟨g, cap, cur, h1, h2, by rw [e]; exact h3, h4⟩
theorem ARow.box (h : ARow S t w base v n l) (hn : 0 < n) : ∃ g c, v = .slice (Option.some ⟨g, 0, none⟩) n c ∧ n ≤ c ∧ Arr S w base w.heap.size (Option.some ⟨g, 0, none⟩) l := by
  obtain ⟨A, c, rfl, hs, hp⟩ := h.open_
  rcases h.2 with ⟨_, rfl⟩ | ⟨g, cap, cur, e, _⟩
  · exact absurd hn (Nat.lt_irrefl _)
  · injection e with e1 _ e3
    subst e1
    exact ⟨g, c, rfl, hs.2.1, hp⟩
theorem arr_info {P : Program} {t : TypeId} {z : Value} {s b : Nat} (h : (P.info? t).map (fun i => (i.zero, i.size, i.bytes)) = Option.some (Option.some z, s, b)) : ∃ i, P.info? t = Option.some i ∧ i.zero = Option.some z ∧ i.size = s ∧ i.bytes = b := by
  cases hi : P.info? t with
  | none => rw [hi] at h; cases h
  | some i =>
    rw [hi] at h
    simp only [Option.map_some, Option.some.injEq, Prod.mk.injEq] at h
    exact ⟨i, rfl, h.1, h.2.1, h.2.2⟩
/-- 'append(s, a)': a lies in a box that was made for it; what is not the row's own block stays. -/
theorem wpList_append_arr {P : Program} {ops : Array Oper} {rest : List Oper} {o : Oper} {a : Act} {Q : Exit → Act → World → Prop} {zv : Value} {bytes : Nat} (tS : TypeId) (hu : P.underlying tS = Option.some (.slice t)) (hi : (P.info? t).map (fun i => (i.zero, i.size, i.bytes)) = Option.some (Option.some zv, S.m, bytes)) (hzs : zv.cells.size = S.m) (hgd : o.guard = none) (s x : Operand)
    (ho : o.op = .call { callee := .builtin .append, args := #[s, x], argTypes := #[tS, tS] })
    (g c : Nat) (p : α) (hs : a.eval s = v) (hown : ARow S t w base v n l) (hx : a.eval x = .slice (Option.some ⟨g, 0, none⟩) 1 c) (hg : w.heap[g]? = Option.some (.cells (S.cs p).toArray t (0, 0))) (hn : n + 1 ≤ maxLen) (hby : (n + 1) * bytes ≤ 140737488355328) (hbase : base ≤ w.heap.size)
    (h : ∀ v' w', ARow S t w' base v' (n + 1) (l ++ [p]) → Below base w w' → (∀ b ob, (∀ k, v.ownBlock = Option.some k → k ≠ b) → w.heap[b]? = Option.some ob → w'.heap[b]? = Option.some ob) → wpList P ops Q rest (a.put o.dst v') w') : wpList P ops Q (o :: rest) a w := by
  obtain ⟨i0, hi0, hz0, hz1, hz2⟩ := arr_info hi
  refine wpList_append_own w hgd s x tS ho base t i0 zv S.m bytes hu hi0 hz0 hz1 hz2 hzs S.pos v n (S.flat l) hs hown ⟨g, 0, none⟩ 1 c (S.cs p) hx (by rw [S.len, Nat.one_mul]) (fun j u hu => ?_) (S.one p) hn hby hbase fun v' w' h2 h3 _ => h v' w' ?_ ((Below.refl _ _).grown h3 hbase fun k e => (hown.lt k e).1) fun b ob hb hob => (h3.block b (Array.getElem?_eq_some_iff.1 hob).1 (fun e => hb b e.symm rfl)).trans hob
  · rw [arr_flat, Nat.zero_add, cell_of_row _ _ j _ _ _ hg, List.getElem?_toArray]; exact hu
  · unfold ARow
    rw [S.flat_append, S.flat_one]
    exact h2
end
/-- Whole numbers. -/
def intS : Shape Int := ⟨fun k => [.int .i64 k], 0, 1, fun _ => rfl, by decide, fun a u hu => by
  simp only [List.mem_cons, List.not_mem_nil, or_false] at hu
  subst hu; rfl⟩
theorem ints_at {w : World} {lo B : Nat} {ad : Addr} {l : List Int} (h : Arr intS w lo B (some ad) l) (k : Nat) (hk : k < l.length) : w.cell? (ad.add k) = some (.int .i64 (l.getD k 0)) := by
  have := h.cell k hk 0 (.int .i64 (l.getD k 0)) rfl
  rwa [show k * intS.m + 0 = k from Nat.mul_one k] at this
end Go.Proofs.YtgnbmmceffolmaaGreatDoor
end
section
set_option maxRecDepth 100000
namespace Go.Proofs.YtgnbmmceffolmaaGreatDoor
open Go.RowKit
/-- The blocks of S, and those made since. -/
def Grow (S : Nat → Prop) (w : World) (k : Nat) : Prop := S k ∨ w.heap.size ≤ k
/-- A row in a block of S, or nil. -/
def SRow (S : Nat → Prop) (t : TypeId) (z : Nat) (w : World) (v : Value) (n : Nat) (xs : List Value) : Prop := w.ownsRow 0 t z v n xs ∧ ∀ k, v.ownBlock = some k → S k
section
variable {S T : Nat → Prop} {t : TypeId} {z n : Nat} {w w' : World} {v : Value} {xs : List Value}
theorem ownsRow_block {b : Nat} (h : w.ownsRow b t z v n xs) (hb : ∀ k, v.ownBlock = some k → w'.heap[k]? = w.heap[k]?) : w'.ownsRow b t z v n xs := by
  refine ⟨h.1, ?_⟩
  rcases h.2 with h0 | ⟨g, cap, cur, rfl, h2, h3, h4⟩
  · exact .inl h0
  · exact .inr ⟨g, cap, cur, rfl, h2, (hb g rfl).trans h3, h4⟩
theorem SRow.lt (h : SRow S t z w v n xs) {k : Nat} (hk : v.ownBlock = some k) : k < w.heap.size := (h.1.lt k hk).2
theorem SRow.kept (h : SRow S t z w v n xs) (hk : Kept T w w') (hd : ∀ k, k < w.heap.size → S k → ¬ T k) : SRow S t z w' v n xs :=
  ⟨ownsRow_block h.1 fun k e => hk.block k (h.lt e) (hd k (h.lt e) (h.2 k e)), h.2⟩
theorem SRow.mono (h : SRow S t z w v n xs) (hs : ∀ k, k < w.heap.size → S k → T k) : SRow T t z w v n xs := ⟨h.1, fun k e => hs k (h.lt e) (h.2 k e)⟩
theorem SRow.new (h : SRow S t z w v n xs) (hb : Below w.heap.size w w') : SRow S t z w' v n xs := ⟨ownsRow_block h.1 fun k e => hb.block k (h.lt e), h.2⟩
theorem SRow.nil : SRow S t z w (.slice none 0 0) 0 [] := ⟨World.ownsRow_nil _ _ _ _, fun _ e => by cases e⟩
theorem SRow.of (h : w'.ownsRow w.heap.size t z v n xs) : SRow (Grow S w) t z w' v n xs := ⟨ownsRow_mono h (Nat.zero_le _), fun k e => .inr (h.lt k e).1⟩
theorem SRow.open_ (h : SRow S t z w v n xs) : ∃ A c, v = .slice A n c ∧ SlIs A n c := by
  rcases h.1.2 with ⟨rfl, rfl⟩ | ⟨g, cap, cur, rfl, hb, hg, hnc, hcm, hsz, htk⟩
  · exact ⟨none, 0, rfl, fun _ => ⟨rfl, rfl⟩, Nat.le_refl _, by decide⟩
  · exact ⟨_, cap, rfl, (fun e => by cases e), hnc, by unfold maxLen at hcm; exact hcm⟩
end
/-- 'append(out, xs...)': out a row in S, xs nil, empty or not. -/
theorem op_append_srow {P : Program} {w : World} {S : Nat → Prop} {o : Oper} {a : Act} {K : Act → World → Prop} {Q : Exit → Act → World → Prop} (s x : Operand) (t : TypeId)
    (ho : o.op = .call { callee := .builtin .append, args := #[s, x], argTypes := #[t, t] })
    (e : TypeId) (z : Value) (size bytes : Nat) (ht : P.underlying t = some (.slice e)) (hi : (P.info? e).map (fun i => (i.zero, i.size, i.bytes)) = some (some z, size, bytes))
    (hzs : z.cells.size = size) (hsz : 0 < size)
    (v : Value) (n : Nat) (xs : List Value) (hs : a.eval s = v) (hown : SRow S e size w v n xs)
    (A : Option Addr) (m c : Nat) (news : List Value) (hx : a.eval x = .slice A m c) (hA : A = none → m = 0 ∧ c = 0) (hl : news.length = m * size)
    (hnews : ∀ ad, A = some ad → ∀ j u, news[j]? = some u → w.cell? (ad.add j) = some u) (h1 : ∀ u ∈ news, u.oneCell' = true)
    (h63 : n + m ≤ maxLen) (hbytes : (n + m) * bytes ≤ 140737488355328)
    (h : ∀ v' w', SRow (Grow S w) e size w' v' (n + m) (xs ++ news) → Kept S w w' → K (a.put o.dst v') w') : o.wp P a w K Q := by
  obtain ⟨i, hi0, hz, hsize, hby⟩ := arr_info hi
  cases A with
  | none =>
    obtain ⟨rfl, rfl⟩ := hA rfl
    have hn : news = [] := List.eq_nil_of_length_eq_zero (by simpa using hl)
    subst hn
    have hrun := run_append_owned_none (P := P) (w := w) 0 t o.type e i size ht hi0 v n xs hown.1
    unfold Oper.wp
    simp [execOp, ho, resolve, invoke, builtin, hs, hx, hrun, Result.andThen]
    have h0 : SRow (Grow S w) e size w v n xs := hown.mono fun k _ hk => Or.inl hk
    exact h v w (by simpa using h0) (Kept.refl _ _)
  | some ad =>
    obtain ⟨v', w', hr, h2, h3, h4, h5⟩ := run_append_own_at (P := P) w 0 t o.type e i z size bytes ht hi0 hz hsize hby hzs hsz v n xs hown.1 ad m c news hl (hnews ad rfl) h1 h63 hbytes (Nat.zero_le _)
    unfold Oper.wp execOp
    simp only [ho, resolve, invoke, builtin, Sem.run_bind, Sem.run_pure, Result.andThen_ok, List.map_toArray, List.map_cons, List.map_nil, hs, hx, hr]
    refine h v' w' ⟨h2, fun k e => ?_⟩ (Kept.of_grown h3 fun k e => hown.2 k e)
    rcases h5 with h5 | h5
    · exact .inl (hown.2 k (h5.symm.trans e))
    · exact .inr (by rw [h5] at e; injection e with e; omega)
/-- The same in a walk; the operation may stand behind a guard that says yes. -/
theorem append_srow {P : Program} {w : World} {S : Nat → Prop} {ops : Array Oper} {rest : List Oper} {o : Oper} {a : Act} {Q : Exit → Act → World → Prop} (hgd : Region.wanted o (yielded ops a.tmps) = true) (s x : Operand) (t : TypeId)
    (ho : o.op = .call { callee := .builtin .append, args := #[s, x], argTypes := #[t, t] })
    (e : TypeId) (z : Value) (size bytes : Nat) (ht : P.underlying t = some (.slice e)) (hi : (P.info? e).map (fun i => (i.zero, i.size, i.bytes)) = some (some z, size, bytes))
    (hzs : z.cells.size = size) (hsz : 0 < size)
    (v : Value) (n : Nat) (xs : List Value) (hs : a.eval s = v) (hown : SRow S e size w v n xs)
    (A : Option Addr) (m c : Nat) (news : List Value) (hx : a.eval x = .slice A m c) (hA : A = none → m = 0 ∧ c = 0) (hl : news.length = m * size)
    (hnews : ∀ ad, A = some ad → ∀ j u, news[j]? = some u → w.cell? (ad.add j) = some u) (h1 : ∀ u ∈ news, u.oneCell' = true)
    (h63 : n + m ≤ maxLen) (hbytes : (n + m) * bytes ≤ 140737488355328)
    (h : ∀ v' w', SRow (Grow S w) e size w' v' (n + m) (xs ++ news) → Kept S w w' → wpList P ops Q rest (a.put o.dst v') w') : wpList P ops Q (o :: rest) a w :=
  BigFrame.wpList_want hgd fun _ hK => op_append_srow s x t ho e z size bytes ht hi hzs hsz v n xs hs hown A m c news hx hA hl hnews h1 h63 hbytes fun v' w' h2 h3 => hK _ _ (h v' w' h2 h3)
/-- Colours of blocks: 0 for those that belong to no thing, among them those not made yet, and those before base. -/
def Col (base : Nat) (w : World) (c : Nat → Nat) : Prop := (∀ k, w.heap.size ≤ k → c k = 0) ∧ ∀ k, c k ≠ 0 → base ≤ k
/-- The blocks made between two worlds get the colour i. -/
def paint (c : Nat → Nat) (w w' : World) (i k : Nat) : Nat := if w.heap.size ≤ k ∧ k < w'.heap.size then i else c k
section
variable {w w' : World} {c : Nat → Nat} {base i j k : Nat}
theorem Col.none (w : World) (base : Nat) : Col base w fun _ => 0 := ⟨fun _ _ => rfl, fun _ h => absurd rfl h⟩
theorem Col.next (h : Col base w c) (hs : w.heap.size ≤ w'.heap.size) : Col base w' c := ⟨fun k hk => h.1 k (by omega), h.2⟩
theorem paint_old (hk : k < w.heap.size) : paint c w w' i k = c k := by unfold paint; rw [if_neg (by omega)]
theorem Col.paint (h : Col base w c) (hB : base ≤ w.heap.size) (hs : w.heap.size ≤ w'.heap.size) (i : Nat) : Col base w' (paint c w w' i) := ⟨fun k hk => by
  show (if w.heap.size ≤ k ∧ k < w'.heap.size then i else c k) = 0
  rw [if_neg (by omega)]
  exact h.1 k (by omega), fun k hk => by
  by_cases hw : w.heap.size ≤ k
  · omega
  · rw [paint_old (by omega)] at hk
    exact h.2 k hk⟩
theorem paint_self (hk : k < w'.heap.size) (h : Grow (fun k => c k = i) w k) : paint c w w' i k = i := by
  unfold paint
  split
  · rfl
  · rcases h with h | h
    · exact h
    · omega
theorem paint_keep (hk : k < w.heap.size) (h : c k = j) : paint c w w' i k = j := (paint_old hk).trans h
theorem Col.below (h : Col base w c) (hB : base ≤ w.heap.size) (hk : Kept (fun k => c k = i) w w') (hi : i ≠ 0) : Below base w w' := hk.below hB fun k e => h.2 k (by omega)
/-- A block of no thing stays while a thing changes. -/
theorem Col.free (hk : Kept (fun k => c k = i) w w') {b : Nat} {o : Obj} (hb : w.heap[b]? = some o) (hc : c b = 0) (hi : i ≠ 0) : w'.heap[b]? = some o :=
  (hk.block b (Array.getElem?_eq_some_iff.1 hb).1 (by omega)).trans hb
theorem Col.tab (h : Col base w c) (hB : 0 < base) (hw : base ≤ w.heap.size) (hk : Kept (fun k => c k = i) w w') (hi : i ≠ 0) (ht : TabW w) : TabW w' := ht.below (h.below hw hk hi) hB
end
end Go.Proofs.YtgnbmmceffolmaaGreatDoor
end
