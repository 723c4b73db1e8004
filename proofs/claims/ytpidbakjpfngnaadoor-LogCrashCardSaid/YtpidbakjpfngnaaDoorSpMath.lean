/-
  Plain mathematics of the superblock pair: what is found in two sectors, what a publication leaves, what a crash leaves of it.
-/
import Derived.Test.YtpidbakjpfngnaaDoorSbOne
import Derived.Test.YtpidbakjpfngnaaDoorFlashB
namespace Go.Proofs.YtpidbakjpfngnaaDoor
namespace Sp
open Sb
theorem good_one {x : Int} {l : List Nat} {s t : S} (h : good x l s) (k : good x l t) : s = t := (good_rd rl_reads counts h).symm.trans (good_rd rl_reads counts k)
/-- The superblock of a sector, if it belongs there. -/
noncomputable def cand (x : Int) (l : List Nat) : Option S := by
  classical exact if h : ∃ s, good x l s ∧ s.gen % 2 = x then some (Classical.choose h) else none
theorem cand_some {x : Int} {l : List Nat} {s : S} (h : good x l s) (hg : s.gen % 2 = x) : cand x l = some s := by
  have hx : ∃ s, good x l s ∧ s.gen % 2 = x := ⟨s, h, hg⟩
  unfold cand
  rw [dif_pos hx]
  exact congrArg some (good_one (Classical.choose_spec hx).1 h)
theorem cand_none {x : Int} {l : List Nat} (h : ∀ s, good x l s → s.gen % 2 ≠ x) : cand x l = none := by
  unfold cand
  rw [dif_neg]
  rintro ⟨s, h1, h2⟩
  exact h s h1 h2
theorem cand_of {x : Int} {l : List Nat} {s : S} (h : cand x l = some s) : good x l s ∧ s.gen % 2 = x := by
  unfold cand at h
  split at h
  · rename_i hx
    injection h with h
    subst h
    exact Classical.choose_spec hx
  · cases h
theorem gen_pos {x : Int} {l : List Nat} {s : S} (h : good x l s) : 1 ≤ s.gen ∧ s.gen ≤ 1099511627775 := h.2.1.1.1
/-- The newer one. -/
def over : Option S → Option S → Option S
  | o, none => o
  | none, some s => some s
  | some b, some s => if b.gen < s.gen then some s else some b
theorem over_none (c : Option S) : over none c = c := by cases c <;> rfl
theorem over_newer {a b : S} (h : a.gen < b.gen) : over (some a) (some b) = some b := if_pos h
theorem over_elder {a b : S} (h : ¬ a.gen < b.gen) : over (some a) (some b) = some a := if_neg h
/-- What is found in the two sectors. -/
noncomputable def newest (l0 l1 : List Nat) : Option S := over (cand 0 l0) (cand 1 l1)
theorem enc_head (x : Int) (s : S) : (enc x s).getD 0 0 = 3 := rfl
theorem no_zero (x : Int) (s : S) : ¬ good x (List.replicate 64 0) s := fun h => by
  have := enc_head x s
  rw [h.2.2] at this
  exact absurd this (by decide)
theorem cand_zero (x : Int) : cand x (List.replicate 64 0) = none := cand_none fun s h => absurd h (no_zero x s)
theorem cand_enc {x : Int} {s : S} (hv : valid s) (hx : s.gen % 2 = x) : cand x (enc x s) = some s := by
  refine cand_some ⟨?_, hv, rfl⟩ hx
  unfold Fr.may
  omega
end Sp
theorem sp_ext {a b : List Nat} {k : Nat} (ha : a.length = k) (hb : b.length = k) (h : ∀ p, p < k → a.getD p 0 = b.getD p 0) : a = b :=
  getD_ext (ha.trans hb.symm) (fun j hj => h j (by omega))
theorem pad_whole {b : List Nat} (h : b.length = 64) : pad b = b := by unfold pad; rw [h]; simp
theorem sec_put {l p : List Nat} {n i j : Nat} (hl : l.length = n * 64) (hi : i < n) (hj : j < n) (hp : p.length = 64) : sec (putSec l i p) j = if j = i then p else sec l j := by
  have h64 : (if j = i then p else sec l j).length = 64 := by
    split
    · exact hp
    · exact sec_len hl hj
  refine sp_ext (k := 64) (sec_len (putSec_len hl hi hp) hj) h64 fun k hk => ?_
  rw [sec_get hk, putSec_get hl hi hp, show (j * 64 + k) / 64 = j by omega, show (j * 64 + k) % 64 = k by omega]
  by_cases h : j = i
  · rw [if_pos h, if_pos h]
  · rw [if_neg h, if_neg h, sec_get hk]
theorem sec_zero {n j : Nat} (hj : j < n) : sec (List.replicate (n * 64) 0) j = List.replicate 64 0 := by
  unfold sec
  rw [List.drop_replicate, List.take_replicate]
  congr 1
  omega
theorem spcrash_len (n : Nat) (cur : List Nat) (old : Nat → Option (List Nat)) (keep : List Bool) (T : List (Int × Int)) : (crashed n cur old keep T).length = n * 64 := by simp [crashed]
theorem spcrash_get {n : Nat} {cur : List Nat} {old : Nat → Option (List Nat)} {keep : List Bool} {T : List (Int × Int)} {p : Nat} (hp : p < n * 64) : (crashed n cur old keep T).getD p 0 = crashByte cur old keep T p := by
  unfold crashed
  rw [List.getD_eq_getElem?_getD, List.getElem?_map, List.getElem?_range hp]; rfl
/-- Nothing dirty: a crash changes nothing. -/
theorem crash_clean {n : Nat} {cur : List Nat} (hl : cur.length = n * 64) (keep : List Bool) (T : List (Int × Int)) : crashed n cur (fun _ => none) keep T = cur :=
  sp_ext (spcrash_len _ _ _ _ _) hl fun p hp => by rw [spcrash_get hp]; rfl
/-- What is dirty behind one Write. -/
def oneOld (i : Nat) (o : List Nat) : Nat → Option (List Nat) := fun k => if k = i then some o else none
theorem one_count (i : Nat) (o : List Nat) : dirtyCount i (oneOld i o) = 0 := by
  unfold dirtyCount dirtyList
  rw [List.length_eq_zero_iff, List.filter_eq_nil_iff]
  intro k hk
  rw [List.mem_range] at hk
  unfold oneOld
  rw [if_neg (by omega)]
  simp
theorem sec_crash {n i j : Nat} {cur o : List Nat} {keep : List Bool} {T : List (Int × Int)} (hl : cur.length = n * 64) (hj : j < n) (ho : o.length = 64) :
    sec (crashed n cur (oneOld i o) keep T) j = if j = i then (sec cur i).take (keptBy keep T 0) ++ o.drop (keptBy keep T 0) else sec cur j := by
  have hk := keptBy_le keep T 0
  by_cases h : j = i
  · subst h
    rw [if_pos rfl]
    refine sp_ext (sec_len (spcrash_len _ _ _ _ _) hj) (by rw [List.length_append, List.length_take, List.length_drop, sec_len hl hj, ho]; omega) fun k hk64 => ?_
    rw [sec_get hk64, spcrash_get (by omega)]
    unfold crashByte
    rw [show (j * 64 + k) / 64 = j by omega, show (j * 64 + k) % 64 = k by omega, one_count]
    have e : oneOld j o j = some o := if_pos rfl
    rw [e]
    show (if k < _ then _ else _) = _
    have hs := torn_get (cur := cur) (l := o) (n := n) hl hj hk hk64
    unfold tornSec at hs
    rw [hs]
  · rw [if_neg h]
    refine sp_ext (sec_len (spcrash_len _ _ _ _ _) hj) (sec_len hl hj) fun k hk64 => ?_
    rw [sec_get hk64, spcrash_get (by omega), sec_get hk64]
    unfold crashByte
    rw [show (j * 64 + k) / 64 = j by omega]
    have e : oneOld i o j = none := if_neg h
    rw [e]
/-- What Publish leaves, and its error. -/
def Flash.pub (s : Flash) (n : Nat) (S : Sb.S) : Flash := if Sb.valid S then (if s.writeErr n (S.gen % 2) (Sb.enc (S.gen % 2) S) = 0 then (s.write n (S.gen % 2) (Sb.enc (S.gen % 2) S)).barrier else s.write n (S.gen % 2) (Sb.enc (S.gen % 2) S)) else s
def Flash.pubErr (s : Flash) (n : Nat) (S : Sb.S) : Int := if Sb.valid S then (if s.writeErr n (S.gen % 2) (Sb.enc (S.gen % 2) S) = 0 then (s.write n (S.gen % 2) (Sb.enc (S.gen % 2) S)).barrierErr else s.writeErr n (S.gen % 2) (Sb.enc (S.gen % 2) S)) else 4
/-- A device at work, nothing dirty. -/
def Flash.clean (l : List Nat) (wr : Nat) (fused : Bool) (fuse : Int) : Flash := ⟨l, fun _ => none, wr, fused, fuse, false⟩
theorem fresh_clean (l : List Nat) : Flash.fresh l = Flash.clean l 0 false 0 := rfl
theorem clean_fuse (l : List Nat) (wr : Nat) (b : Bool) (f k : Int) (hk : 0 ≤ k) : (Flash.clean l wr b f).setFuse k = Flash.clean l wr true k := by
  unfold Flash.setFuse Flash.clean
  rw [decide_eq_true hk]
section
variable {S : Sb.S} {n : Nat} {l : List Nat} {wr : Nat}
theorem gen_at : 0 ≤ S.gen % 2 ∧ S.gen % 2 < 2 := by omega
theorem pub_err (hn : 2 ≤ n) (b : Bool) (f : Int) : (Flash.clean l wr b f).writeErr n (S.gen % 2) (Sb.enc (S.gen % 2) S) = if b = true ∧ f = 0 then 1 else 0 := by
  unfold Flash.writeErr Flash.clean Flash.lasts
  rw [Sb.enc_length]
  simp only [Bool.false_eq_true, if_false, Nat.lt_irrefl]
  rw [if_neg (by omega)]
  cases b <;> simp
theorem burnt_clean {f : Int} (h : f ≠ 0) : (Flash.clean l wr true f).burnt = Flash.clean l wr true (f - 1) := by
  simp [Flash.burnt, Flash.clean, h]
/-- With power for all of it. -/
theorem pub_all (hv : Sb.valid S) (hn : 2 ≤ n) (b : Bool) (f : Int) (hf : b = true → 2 ≤ f) :
    ∃ f', (Flash.clean l wr b f).pub n S = Flash.clean (putSec l (S.gen % 2).toNat (Sb.enc (S.gen % 2) S)) (wr + 1) b f' ∧ (Flash.clean l wr b f).pubErr n S = 0 := by
  have e := pub_err (S := S) (l := l) (wr := wr) hn b f
  have hx : ¬ (b = true ∧ f = 0) := fun h => by have := hf h.1; omega
  rw [if_neg hx] at e
  have hw : (Flash.clean l wr b f).write n (S.gen % 2) (Sb.enc (S.gen % 2) S) = ⟨putSec l (S.gen % 2).toNat (Sb.enc (S.gen % 2) S), oneOld (S.gen % 2).toNat (sec l (S.gen % 2).toNat), wr + 1, b, (if b = true then f - 1 else f), false⟩ := by
    unfold Flash.write
    rw [if_neg (by rw [Sb.enc_length]; simp [Flash.clean]; omega)]
    have hl : (Flash.clean l wr b f).lasts = true := by
      unfold Flash.lasts Flash.clean
      cases b with
      | false => rfl
      | true => have := hf rfl; simp; omega
    rw [if_pos hl]
    unfold Flash.wrote
    rw [pad_whole (Sb.enc_length _ _)]
    cases b with
    | false => rfl
    | true =>
      rw [burnt_clean (by have := hf rfl; omega)]
      rfl
  unfold Flash.pub Flash.pubErr
  rw [if_pos hv, if_pos hv, if_pos e, if_pos e, hw]
  unfold Flash.barrier Flash.barrierErr Flash.lasts Flash.burnt Flash.clean
  cases b with
  | false => exact ⟨f, rfl, rfl⟩
  | true =>
    have := hf rfl
    have h1 : ¬ (f - 1 = 0) := by omega
    refine ⟨f - 1 - 1, ?_, ?_⟩
    · simp [h1]
    · simp [h1]
/-- Without power for the Write. -/
theorem pub_none (hv : Sb.valid S) (hn : 2 ≤ n) : (Flash.clean l wr true 0).pub n S = { Flash.clean l wr true 0 with dead := true } ∧ (Flash.clean l wr true 0).pubErr n S = 1 := by
  have e := pub_err (S := S) (l := l) (wr := wr) hn true 0
  rw [if_pos ⟨rfl, rfl⟩] at e
  unfold Flash.pub Flash.pubErr
  rw [if_pos hv, if_pos hv, e, if_neg (by decide), if_neg (by decide)]
  refine ⟨?_, rfl⟩
  unfold Flash.write
  rw [if_neg (by rw [Sb.enc_length]; simp [Flash.clean]; omega)]
  rfl
/-- With power for the Write alone. -/
theorem pub_half (hv : Sb.valid S) (hn : 2 ≤ n) : (Flash.clean l wr true 1).pub n S = ⟨putSec l (S.gen % 2).toNat (Sb.enc (S.gen % 2) S), oneOld (S.gen % 2).toNat (sec l (S.gen % 2).toNat), wr + 1, true, 0, true⟩ ∧ (Flash.clean l wr true 1).pubErr n S = 1 := by
  have e := pub_err (S := S) (l := l) (wr := wr) hn true 1
  rw [if_neg (by decide)] at e
  have hw : (Flash.clean l wr true 1).write n (S.gen % 2) (Sb.enc (S.gen % 2) S) = ⟨putSec l (S.gen % 2).toNat (Sb.enc (S.gen % 2) S), oneOld (S.gen % 2).toNat (sec l (S.gen % 2).toNat), wr + 1, true, 0, false⟩ := by
    unfold Flash.write
    rw [if_neg (by rw [Sb.enc_length]; simp [Flash.clean]; omega), if_pos (show (Flash.clean l wr true 1).lasts = true from rfl), burnt_clean (by decide)]
    unfold Flash.wrote
    rw [pad_whole (Sb.enc_length _ _)]
    rfl
  unfold Flash.pub Flash.pubErr
  rw [if_pos hv, if_pos hv, if_pos e, if_pos e, hw]
  exact ⟨rfl, rfl⟩
theorem pub_bad (hv : ¬ Sb.valid S) (s : Flash) : s.pub n S = s ∧ s.pubErr n S = 4 := ⟨if_neg hv, if_neg hv⟩
end
end Go.Proofs.YtpidbakjpfngnaaDoor
