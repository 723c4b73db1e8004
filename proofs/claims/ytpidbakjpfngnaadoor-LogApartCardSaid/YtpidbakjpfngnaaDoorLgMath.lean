/-
  Plain mathematics of the plan journal: where a record lies, what is found there, what an append leaves, also one that is interrupted.
-/
import Derived.Test.YtpidbakjpfngnaaDoorSpMath
import Derived.Test.YtpidbakjpfngnaaDoorPlMath
namespace Go.Proofs.YtpidbakjpfngnaaDoor
namespace Lg
open Pl
/-- The sector of a record. -/
def sector (m i : Int) : Int := if 1 ≤ m ∧ 0 ≤ i ∧ i < 36 then 2 + (1 - m % 2) * 36 + i else -1
theorem sector_in {m i : Int} (h : 1 ≤ m ∧ 0 ≤ i ∧ i < 36) : sector m i = 2 + (1 - m % 2) * 36 + i := if_pos h
theorem sector_out {m i : Int} (h : ¬ (1 ≤ m ∧ 0 ≤ i ∧ i < 36)) : sector m i = -1 := if_neg h
theorem sector_range {m i : Int} (h : 1 ≤ m ∧ 0 ≤ i ∧ i < 36) : 2 ≤ sector m i ∧ sector m i < 74 := by rw [sector_in h]; omega
theorem sector_same {m i j : Int} (hi : 1 ≤ m ∧ 0 ≤ i ∧ i < 36) (hj : 1 ≤ m ∧ 0 ≤ j ∧ j < 36) : sector m i = sector m j ↔ i = j := by
  rw [sector_in hi, sector_in hj]; omega
theorem sector_apart {m i j : Int} (hi : 1 ≤ m ∧ 0 ≤ i ∧ i < 36) (hj : 1 ≤ m ∧ 0 ≤ j ∧ j < 36) : sector (m + 1) i ≠ sector m j := by
  rw [sector_in ⟨by omega, hi.2⟩, sector_in hj]; omega
theorem good_one {x : Int} {l : List Nat} {s t : P} (h : good x l s) (k : good x l t) : s = t := (good_rd rl_reads h).symm.trans (good_rd rl_reads k)
/-- The record of a migration with that index, if it is there. -/
noncomputable def here (l : List Nat) (m i : Int) : Option P := by
  classical exact if h : ∃ p, good (sector m i) (sec l (sector m i).toNat) p ∧ p.mig = m ∧ p.idx = i then some (Classical.choose h) else none
theorem here_some {l : List Nat} {m i : Int} {p : P} (h : good (sector m i) (sec l (sector m i).toNat) p) (hm : p.mig = m) (hi : p.idx = i) : here l m i = some p := by
  have hx : ∃ p, good (sector m i) (sec l (sector m i).toNat) p ∧ p.mig = m ∧ p.idx = i := ⟨p, h, hm, hi⟩
  unfold here
  rw [dif_pos hx]
  exact congrArg some (good_one (Classical.choose_spec hx).1 h)
theorem here_none {l : List Nat} {m i : Int} (h : ∀ p, good (sector m i) (sec l (sector m i).toNat) p → ¬ (p.mig = m ∧ p.idx = i)) : here l m i = none := by
  unfold here
  rw [dif_neg]
  rintro ⟨p, h1, h2⟩
  exact h p h1 h2
theorem here_of {l : List Nat} {m i : Int} {p : P} (h : here l m i = some p) : good (sector m i) (sec l (sector m i).toNat) p ∧ p.mig = m ∧ p.idx = i := by
  unfold here at h
  split at h
  · rename_i hx
    injection h with h
    subst h
    exact Classical.choose_spec hx
  · cases h
theorem enc_head (x : Int) (p : P) : (enc x p).getD 0 0 = 4 := rfl
theorem no_zero (x : Int) (p : P) : ¬ good x (List.replicate 64 0) p := fun h => by
  have := enc_head x p
  rw [h.2.2] at this
  exact absurd this (by decide)
theorem here_out {l : List Nat} {m i : Int} (h : ¬ (1 ≤ m ∧ 0 ≤ i ∧ i < 36)) : here l m i = none := here_none fun p hp => by
  rw [sector_out h] at hp
  exact absurd hp.1.2.2.2.1 (by decide)
theorem here_zero {l : List Nat} {m i : Int} (h : sec l (sector m i).toNat = List.replicate 64 0) : here l m i = none := here_none fun p hp => by
  rw [h] at hp
  exact absurd hp (no_zero _ _)
theorem here_enc {l : List Nat} {m i : Int} {p : P} (hr : 1 ≤ m ∧ 0 ≤ i ∧ i < 36) (h : sec l (sector m i).toNat = enc (sector m i) p) (hv : valid p) (hm : p.mig = m) (hi : p.idx = i) : here l m i = some p := by
  refine here_some ⟨?_, hv, h.symm⟩ hm hi
  have := sector_range hr
  unfold Fr.may
  omega
/-- The records from index i on, k of them at most. -/
noncomputable def from_ (l : List Nat) (m : Int) : Nat → Nat → List P
  | 0, _ => []
  | k + 1, i => match here l m (i : Int) with
    | none => []
    | some p => p :: from_ l m k (i + 1)
/-- What Replay finds. -/
noncomputable def replay (l : List Nat) (m : Int) : List P := from_ l m 36 0
theorem from_stop {l : List Nat} {m : Int} {k i : Nat} (h : here l m (i : Int) = none) : from_ l m k i = [] := by
  cases k with
  | zero => rfl
  | succ k => unfold from_; rw [h]
theorem from_next {l : List Nat} {m : Int} {k i : Nat} {p : P} (h : here l m (i : Int) = some p) : from_ l m (k + 1) i = p :: from_ l m k (i + 1) := by
  rw [from_, h]
theorem from_len (l : List Nat) (m : Int) : ∀ k i, (from_ l m k i).length ≤ k
  | 0, _ => Nat.le_refl _
  | k + 1, i => by
    unfold from_
    split
    · exact Nat.zero_le _
    · rw [List.length_cons]
      have := from_len l m k (i + 1)
      omega
theorem replay_len (l : List Nat) (m : Int) : (replay l m).length ≤ 36 := from_len l m 36 0
theorem from_valid (l : List Nat) (m : Int) : ∀ k i, ∀ p ∈ from_ l m k i, valid p
  | 0, _ => fun p h => by cases h
  | k + 1, i => fun p h => by
    unfold from_ at h
    split at h
    · cases h
    · rename_i q hq
      rcases List.mem_cons.1 h with rfl | h
      · exact (here_of hq).1.2.1
      · exact from_valid l m k (i + 1) p h
theorem replay_valid (l : List Nat) (m : Int) : ∀ p ∈ replay l m, valid p := from_valid l m 36 0
/-- The walk of Replay: what was found, and what remains to be found. -/
def Part (l : List Nat) (m : Int) (k : Nat) (out : List P) : Prop := k ≤ 36 ∧ out.length = k ∧ replay l m = out ++ from_ l m (36 - k) k
theorem part_start (l : List Nat) (m : Int) : Part l m 0 [] := ⟨Nat.zero_le _, rfl, rfl⟩
theorem part_next {l : List Nat} {m : Int} {k : Nat} {out : List P} {p : P} (h : Part l m k out) (hk : k < 36) (hp : here l m (k : Int) = some p) : Part l m (k + 1) (out ++ [p]) := by
  obtain ⟨h1, h2, h3⟩ := h
  refine ⟨hk, by rw [List.length_append, h2]; rfl, ?_⟩
  rw [h3, show 36 - k = 36 - (k + 1) + 1 by omega, from_next hp, List.append_assoc, List.singleton_append]
theorem part_stop {l : List Nat} {m : Int} {k : Nat} {out : List P} (h : Part l m k out) (hp : here l m (k : Int) = none) : replay l m = out := by
  rw [h.2.2, from_stop hp, List.append_nil]
theorem part_end {l : List Nat} {m : Int} {out : List P} (h : Part l m 36 out) : replay l m = out := by
  rw [h.2.2, Nat.sub_self]; exact List.append_nil _
theorem replay_none {l : List Nat} {m : Int} (h : ¬ 1 ≤ m) : replay l m = [] := from_stop (here_out fun k => h k.1)
/-- The half of migration m holds the records f 0 .. f (n - 1), and nothing behind them. -/
def Laid (l : List Nat) (m : Int) (f : Nat → P) (n : Nat) : Prop := ∀ j : Nat, j < 36 → sec l (sector m (j : Int)).toNat = if j < n then enc (sector m (j : Int)) (f j) else List.replicate 64 0
/-- The records are those of migration m. -/
def Own (m : Int) (f : Nat → P) : Prop := 1 ≤ m ∧ ∀ j : Nat, j < 36 → valid (f j) ∧ (f j).mig = m ∧ (f j).idx = (j : Int)
theorem in_range {m : Int} (hm : 1 ≤ m) {j : Nat} (hj : j < 36) : 1 ≤ m ∧ 0 ≤ (j : Int) ∧ (j : Int) < 36 := ⟨hm, by omega, by omega⟩
theorem replay_laid {l : List Nat} {m : Int} {f : Nat → P} {n : Nat} (ho : Own m f) (h : Laid l m f n) (hn : n ≤ 36) : replay l m = (List.range n).map f := by
  have key : ∀ k i, i + k = 36 → from_ l m k i = ((List.range (n - i)).map fun j => f (i + j)) := by
    intro k
    induction k with
    | zero => intro i hi; rw [show n - i = 0 by omega]; rfl
    | succ k ih =>
      intro i hi
      have hs := h i (by omega)
      by_cases hlt : i < n
      · rw [if_pos hlt] at hs
        have hv := ho.2 i (by omega)
        rw [from_next (here_enc (in_range ho.1 (by omega)) hs hv.1 hv.2.1 hv.2.2), ih (i + 1) (by omega), show n - i = n - (i + 1) + 1 by omega, List.range_succ_eq_map, List.map_cons, List.map_map]
        congr 1
        apply List.map_congr_left
        intro j _
        show f (i + 1 + j) = f (i + (j + 1))
        rw [show i + 1 + j = i + (j + 1) by omega]
      · rw [if_neg hlt] at hs
        rw [from_stop (here_zero hs), show n - i = 0 by omega]; rfl
  have := key 36 0 rfl
  simpa [replay] using this
theorem laid_start {n : Nat} (hn : 74 ≤ n) (m : Int) (hm : 1 ≤ m) (f : Nat → P) : Laid (List.replicate (n * 64) 0) m f 0 := fun j hj => by
  have := sector_range (in_range hm hj)
  rw [if_neg (Nat.not_lt_zero _), sec_zero (by omega)]
theorem laid_next {n k : Nat} {l : List Nat} {m : Int} {f : Nat → P} (hn : 74 ≤ n) (hl : l.length = n * 64) (hm : 1 ≤ m) (hk : k < 36) (h : Laid l m f k) : Laid (putSec l (sector m (k : Int)).toNat (enc (sector m (k : Int)) (f k))) m f (k + 1) := fun j hj => by
  have h1 := sector_range (in_range hm hj)
  have h2 := sector_range (in_range hm hk)
  rw [sec_put hl (by omega) (by omega) (enc_length _ _)]
  by_cases e : j = k
  · subst e
    rw [if_pos rfl, if_pos (Nat.lt_succ_self _)]
  · have hne : ¬ (sector m (j : Int)).toNat = (sector m (k : Int)).toNat := fun e' => by
      have e2 : sector m (j : Int) = sector m (k : Int) := by omega
      rw [sector_same (in_range hm hj) (in_range hm hk)] at e2
      omega
    rw [if_neg hne, h j hj]
    by_cases hlt : j < k
    · rw [if_pos hlt, if_pos (by omega)]
    · rw [if_neg hlt, if_neg (by omega)]
/-- A record of the next migration lies in the other half. -/
theorem laid_other {n k i : Nat} {l p : List Nat} {m m' : Int} {f : Nat → P} (hn : 74 ≤ n) (hl : l.length = n * 64) (hp : p.length = 64) (hm : 1 ≤ m) (hm' : m' = m + 1 ∨ m = m' + 1) (h1m' : 1 ≤ m') (hi : i < 36) (h : Laid l m f k) : Laid (putSec l (sector m' (i : Int)).toNat p) m f k := fun j hj => by
  have h1 := sector_range (in_range hm hj)
  have h2 := sector_range (in_range h1m' hi)
  rw [sec_put hl (by omega) (by omega) hp]
  have hne : ¬ (sector m (j : Int)).toNat = (sector m' (i : Int)).toNat := fun e' => by
    have e2 : sector m (j : Int) = sector m' (i : Int) := by omega
    rcases hm' with rfl | rfl
    · exact sector_apart (in_range hm hi) (in_range hm hj) e2.symm
    · exact sector_apart (in_range h1m' hj) (in_range h1m' hi) e2
  rw [if_neg hne]
  exact h j hj
theorem laid_ext {l : List Nat} {m : Int} {f g : Nat → P} {n : Nat} (h : Laid l m f n) (e : ∀ j, j < n → f j = g j) : Laid l m g n := fun j hj => by
  rw [h j hj]
  by_cases hlt : j < n
  · rw [if_pos hlt, if_pos hlt, e j hlt]
  · rw [if_neg hlt, if_neg hlt]
end Lg
/-- What Append leaves, and its error. -/
def Flash.app (s : Flash) (n : Nat) (p : Pl.P) : Flash := if Pl.valid p then (if s.writeErr n (Lg.sector p.mig p.idx) (Pl.enc (Lg.sector p.mig p.idx) p) = 0 then (s.write n (Lg.sector p.mig p.idx) (Pl.enc (Lg.sector p.mig p.idx) p)).barrier else s.write n (Lg.sector p.mig p.idx) (Pl.enc (Lg.sector p.mig p.idx) p)) else s
def Flash.appErr (s : Flash) (n : Nat) (p : Pl.P) : Int := if Pl.valid p then (if s.writeErr n (Lg.sector p.mig p.idx) (Pl.enc (Lg.sector p.mig p.idx) p) = 0 then (s.write n (Lg.sector p.mig p.idx) (Pl.enc (Lg.sector p.mig p.idx) p)).barrierErr else s.writeErr n (Lg.sector p.mig p.idx) (Pl.enc (Lg.sector p.mig p.idx) p)) else 4
namespace Lg
open Pl
theorem valid_at {p : P} (hv : valid p) : 1 ≤ p.mig ∧ 0 ≤ p.idx ∧ p.idx < 36 := by
  obtain ⟨⟨h1, _⟩, _, _, h4⟩ := hv
  omega
section
variable {p : P} {n : Nat} {l : List Nat} {wr : Nat}
theorem app_err (hv : valid p) (hn : 74 ≤ n) (b : Bool) (f : Int) : (Flash.clean l wr b f).writeErr n (sector p.mig p.idx) (enc (sector p.mig p.idx) p) = if b = true ∧ f = 0 then 1 else 0 := by
  have hx := sector_range (valid_at hv)
  unfold Flash.writeErr Flash.clean Flash.lasts
  rw [Pl.enc_length]
  simp only [Bool.false_eq_true, if_false, Nat.lt_irrefl]
  rw [if_neg (by omega)]
  cases b <;> simp
theorem app_all (hv : valid p) (hn : 74 ≤ n) (b : Bool) (f : Int) (hf : b = true → 2 ≤ f) :
    ∃ f', (Flash.clean l wr b f).app n p = Flash.clean (putSec l (sector p.mig p.idx).toNat (enc (sector p.mig p.idx) p)) (wr + 1) b f' ∧ (Flash.clean l wr b f).appErr n p = 0 ∧ (b = false → f' = f) := by
  have hsx := sector_range (valid_at hv)
  have e := app_err (l := l) (wr := wr) hv hn b f
  have hx : ¬ (b = true ∧ f = 0) := fun h => by have := hf h.1; omega
  rw [if_neg hx] at e
  unfold Flash.app Flash.appErr
  rw [if_pos hv, if_pos hv, if_pos e, if_pos e]
  clear e
  have hel := Pl.enc_length (sector p.mig p.idx) p
  generalize enc (sector p.mig p.idx) p = en at *
  generalize sector p.mig p.idx = x at *
  have hw : (Flash.clean l wr b f).write n x en = ⟨putSec l x.toNat en, oneOld x.toNat (sec l x.toNat), wr + 1, b, (if b = true then f - 1 else f), false⟩ := by
    unfold Flash.write
    rw [if_neg (by rw [hel]; simp [Flash.clean]; omega)]
    have hl : (Flash.clean l wr b f).lasts = true := by
      unfold Flash.lasts Flash.clean
      cases b with
      | false => rfl
      | true => have := hf rfl; simp; omega
    rw [if_pos hl]
    unfold Flash.wrote
    rw [pad_whole hel]
    cases b with
    | false => rfl
    | true =>
      rw [burnt_clean (by have := hf rfl; omega)]
      rfl
  rw [hw]
  unfold Flash.barrier Flash.barrierErr Flash.lasts Flash.burnt Flash.clean
  cases b with
  | false => exact ⟨f, rfl, rfl, fun _ => rfl⟩
  | true =>
    have := hf rfl
    have h1 : ¬ (f - 1 = 0) := by omega
    refine ⟨f - 1 - 1, ?_, ?_, fun h => by cases h⟩
    · simp [h1]
    · simp [h1]
/-- Without power for the Write. -/
theorem app_none (hv : valid p) (hn : 74 ≤ n) : (Flash.clean l wr true 0).app n p = { Flash.clean l wr true 0 with dead := true } ∧ (Flash.clean l wr true 0).appErr n p = 1 := by
  have hsx := sector_range (valid_at hv)
  have e := app_err (l := l) (wr := wr) hv hn true 0
  rw [if_pos ⟨rfl, rfl⟩] at e
  unfold Flash.app Flash.appErr
  rw [if_pos hv, if_pos hv, e, if_neg (by decide), if_neg (by decide)]
  refine ⟨?_, rfl⟩
  unfold Flash.write
  rw [if_neg (by rw [Pl.enc_length]; simp [Flash.clean]; omega)]
  rfl
/-- With power for the Write alone. -/
theorem app_half (hv : valid p) (hn : 74 ≤ n) : (Flash.clean l wr true 1).app n p = ⟨putSec l (sector p.mig p.idx).toNat (enc (sector p.mig p.idx) p), oneOld (sector p.mig p.idx).toNat (sec l (sector p.mig p.idx).toNat), wr + 1, true, 0, true⟩ ∧ (Flash.clean l wr true 1).appErr n p = 1 := by
  have hsx := sector_range (valid_at hv)
  have e := app_err (l := l) (wr := wr) hv hn true 1
  rw [if_neg (by decide)] at e
  have hw : (Flash.clean l wr true 1).write n (sector p.mig p.idx) (enc (sector p.mig p.idx) p) = ⟨putSec l (sector p.mig p.idx).toNat (enc (sector p.mig p.idx) p), oneOld (sector p.mig p.idx).toNat (sec l (sector p.mig p.idx).toNat), wr + 1, true, 0, false⟩ := by
    unfold Flash.write
    rw [if_neg (by rw [Pl.enc_length]; simp [Flash.clean]; omega), if_pos (show (Flash.clean l wr true 1).lasts = true from rfl), burnt_clean (by decide)]
    unfold Flash.wrote
    rw [pad_whole (Pl.enc_length _ _)]
    rfl
  unfold Flash.app Flash.appErr
  rw [if_pos hv, if_pos hv, if_pos e, if_pos e, hw]
  exact ⟨rfl, rfl⟩
theorem app_bad (hv : ¬ valid p) (s : Flash) : s.app n p = s ∧ s.appErr n p = 4 := ⟨if_neg hv, if_neg hv⟩
end
/-- What a crash leaves of an interrupted append. -/
theorem laid_crash {n k : Nat} {l : List Nat} {m : Int} {f : Nat → P} {keep : List Bool} {T : List (Int × Int)} (hn : 74 ≤ n) (hl : l.length = n * 64) (hm : 1 ≤ m) (hk : k < 36) (h : Laid l m f k) (hT : keptBy keep T 0 = 64 ∨ keptBy keep T 0 = 0) :
    Laid (crashed n (putSec l (sector m (k : Int)).toNat (enc (sector m (k : Int)) (f k))) (oneOld (sector m (k : Int)).toNat (sec l (sector m (k : Int)).toNat)) keep T) m f (k + 1) ∨
    Laid (crashed n (putSec l (sector m (k : Int)).toNat (enc (sector m (k : Int)) (f k))) (oneOld (sector m (k : Int)).toNat (sec l (sector m (k : Int)).toNat)) keep T) m f k := by
  have h2 := sector_range (in_range hm hk)
  have hlp : (putSec l (sector m (k : Int)).toNat (enc (sector m (k : Int)) (f k))).length = n * 64 := putSec_len hl (by omega) (enc_length _ _)
  have hln := laid_next hn hl hm hk h
  have hso : (sec l (sector m (k : Int)).toNat).length = 64 := sec_len hl (by omega)
  have key : ∀ j : Nat, j < 36 → sec (crashed n (putSec l (sector m (k : Int)).toNat (enc (sector m (k : Int)) (f k))) (oneOld (sector m (k : Int)).toNat (sec l (sector m (k : Int)).toNat)) keep T) (sector m (j : Int)).toNat = _ := fun j hj =>
    sec_crash (i := (sector m (k : Int)).toNat) hlp (show (sector m (j : Int)).toNat < n by have := sector_range (in_range hm hj); omega) hso
  have hsame : ∀ j : Nat, j < 36 → ((sector m (j : Int)).toNat = (sector m (k : Int)).toNat ↔ j = k) := fun j hj => by
    have h1 := sector_range (in_range hm hj)
    constructor
    · intro e'
      have e2 : sector m (j : Int) = sector m (k : Int) := by omega
      rw [sector_same (in_range hm hj) (in_range hm hk)] at e2
      omega
    · rintro rfl; rfl
  have hsp : (sec (putSec l (sector m (k : Int)).toNat (enc (sector m (k : Int)) (f k))) (sector m (k : Int)).toNat).length = 64 := sec_len hlp (by omega)
  rcases hT with e | e
  · refine .inl fun j hj => ?_
    rw [key j hj, e]
    by_cases hjk : j = k
    · rw [if_pos ((hsame j hj).2 hjk)]
      subst hjk
      rw [List.take_of_length_le (by omega), List.drop_of_length_le (by omega), List.append_nil, hln j hj]
    · rw [if_neg fun q => hjk ((hsame j hj).1 q), hln j hj]
  · refine .inr fun j hj => ?_
    rw [key j hj, e]
    by_cases hjk : j = k
    · rw [if_pos ((hsame j hj).2 hjk)]
      subst hjk
      rw [List.take_zero, List.nil_append, List.drop_zero, h j hj]
    · rw [if_neg fun q => hjk ((hsame j hj).1 q), hln j hj]
      by_cases hlt : j < k
      · rw [if_pos hlt, if_pos (by omega)]
      · rw [if_neg hlt, if_neg (by omega)]
end Lg
end Go.Proofs.YtpidbakjpfngnaaDoor
