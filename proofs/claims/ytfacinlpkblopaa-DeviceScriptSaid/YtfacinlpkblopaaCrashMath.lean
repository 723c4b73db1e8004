/-
  What a crash leaves of a device's contents: plain lists.
-/
import Derived.Test.YtfacinlpkblopaaFlashSurv
namespace Go.Proofs.Ytfacinlpkblopaa
open Go.RowKit Go.Maps

theorem dirty_succ (n : Nat) (old : Nat → Option (List Nat)) : dirtyList (n + 1) old = dirtyList n old ++ (if (old n).isSome = true then [n] else []) := by
  unfold dirtyList
  rw [List.range_succ, List.filter_append]
  congr 1
  by_cases h : (old n).isSome = true <;> simp [h]
/-- The k-th dirty sector has k dirty sectors before it. -/
theorem dirty_rank (old : Nat → Option (List Nat)) : ∀ (n k : Nat), k < (dirtyList n old).length → (dirtyList n old).getD k 0 < n ∧ (old ((dirtyList n old).getD k 0)).isSome = true ∧ dirtyCount ((dirtyList n old).getD k 0) old = k
  | 0, k, h => by simp [dirtyList] at h
  | n + 1, k, h => by
    rw [dirty_succ] at h ⊢
    by_cases hk : k < (dirtyList n old).length
    · have e : (dirtyList n old ++ (if (old n).isSome = true then [n] else [])).getD k 0 = (dirtyList n old).getD k 0 := by
        rw [List.getD_eq_getElem?_getD, List.getD_eq_getElem?_getD, List.getElem?_append_left hk]
      rw [e]
      obtain ⟨h1, h2, h3⟩ := dirty_rank old n k hk
      exact ⟨by omega, h2, h3⟩
    · by_cases hs : (old n).isSome = true
      · rw [if_pos hs] at h ⊢
        rw [List.length_append, List.length_singleton] at h
        have hk2 : k = (dirtyList n old).length := by omega
        have e : (dirtyList n old ++ [n]).getD k 0 = n := by
          rw [List.getD_eq_getElem?_getD, List.getElem?_append_right (by omega), hk2, Nat.sub_self]; rfl
        rw [e]
        exact ⟨by omega, hs, hk2.symm⟩
      · rw [if_neg hs, List.append_nil] at h
        exact absurd h hk
theorem dirty_has (old : Nat → Option (List Nat)) (n i : Nat) (hi : i < n) (ho : (old i).isSome = true) : dirtyCount i old < (dirtyList n old).length ∧ (dirtyList n old).getD (dirtyCount i old) 0 = i := by
  induction n with
  | zero => omega
  | succ n ih =>
    rw [dirty_succ]
    by_cases e : i = n
    · subst e
      rw [if_pos ho, List.length_append, List.length_singleton]
      refine ⟨by unfold dirtyCount; omega, ?_⟩
      unfold dirtyCount
      rw [List.getD_eq_getElem?_getD, List.getElem?_append_right (Nat.le_refl _), Nat.sub_self]; rfl
    · obtain ⟨h1, h2⟩ := ih (by omega)
      refine ⟨by rw [List.length_append]; omega, ?_⟩
      rw [List.getD_eq_getElem?_getD, List.getElem?_append_left h1, ← List.getD_eq_getElem?_getD]
      exact h2
/-- One byte behind a crash. -/
def crashByte (cur : List Nat) (old : Nat → Option (List Nat)) (keep : List Bool) (T : List (Int × Int)) (p : Nat) : Nat :=
  match old (p / 64) with
  | some l => if p % 64 < keptBy keep T (dirtyCount (p / 64) old) then cur.getD p 0 else l.getD (p % 64) 0
  | none => cur.getD p 0
def crashed (n : Nat) (cur : List Nat) (old : Nat → Option (List Nat)) (keep : List Bool) (T : List (Int × Int)) : List Nat := (List.range (n * 64)).map (crashByte cur old keep T)
/-- A sector behind a crash. -/
def tornSec (cur : List Nat) (i k : Nat) (l : List Nat) : List Nat := (sec cur i).take k ++ l.drop k
theorem putSec_get {l q : List Nat} {n i p : Nat} (hl : l.length = n * 64) (hi : i < n) (hq : q.length = 64) : (putSec l i q).getD p 0 = if p / 64 = i then q.getD (p % 64) 0 else l.getD p 0 := by
  unfold putSec
  rw [List.getD_eq_getElem?_getD]
  by_cases h1 : p < i * 64
  · rw [if_neg (by omega), List.append_assoc, List.getElem?_append_left (by rw [List.length_take]; omega), List.getElem?_take_of_lt h1, ← List.getD_eq_getElem?_getD]
  · by_cases h2 : p < i * 64 + 64
    · rw [if_pos (by omega), List.getElem?_append_left (by rw [List.length_append, List.length_take, hq]; omega), List.getElem?_append_right (by rw [List.length_take]; omega), List.length_take, Nat.min_eq_left (by omega), show p - i * 64 = p % 64 by omega, ← List.getD_eq_getElem?_getD]
    · rw [if_neg (by omega), List.getElem?_append_right (by rw [List.length_append, List.length_take, hq]; omega), List.length_append, List.length_take, hq, Nat.min_eq_left (by omega), List.getElem?_drop, show i * 64 + 64 + (p - (i * 64 + 64)) = p by omega, ← List.getD_eq_getElem?_getD]
theorem torn_len {cur l : List Nat} {n i k : Nat} (hc : cur.length = n * 64) (hi : i < n) (hl : l.length = 64) (hk : k ≤ 64) : (tornSec cur i k l).length = 64 := by
  unfold tornSec; rw [List.length_append, List.length_take, List.length_drop, sec_len hc hi, hl]; omega
theorem torn_get {cur l : List Nat} {n i k x : Nat} (hc : cur.length = n * 64) (hi : i < n) (hk : k ≤ 64) (hx : x < 64) : (tornSec cur i k l).getD x 0 = if x < k then cur.getD (i * 64 + x) 0 else l.getD x 0 := by
  unfold tornSec
  rw [List.getD_eq_getElem?_getD]
  by_cases h : x < k
  · rw [if_pos h, List.getElem?_append_left (by rw [List.length_take, sec_len hc hi]; omega), List.getElem?_take_of_lt h, ← List.getD_eq_getElem?_getD, sec_get hx]
  · rw [if_neg h, List.getElem?_append_right (by rw [List.length_take, sec_len hc hi]; omega), List.length_take, sec_len hc hi, Nat.min_eq_left hk, List.getElem?_drop, show k + (x - k) = x by omega, ← List.getD_eq_getElem?_getD]
theorem torn_lt {cur l : List Nat} {i k : Nat} (hc : ∀ x ∈ cur, x < 256) (hl : ∀ x ∈ l, x < 256) : ∀ x ∈ tornSec cur i k l, x < 256 := fun x hx => by
  unfold tornSec sec at hx
  rcases List.mem_append.1 hx with h | h
  · exact hc x (List.mem_of_mem_drop (List.mem_of_mem_take (List.mem_of_mem_take h)))
  · exact hl x (List.mem_of_mem_drop h)
/-- The contents when k dirty sectors have been done. -/
structure Done (n : Nat) (cur : List Nat) (old : Nat → Option (List Nat)) (keep : List Bool) (T : List (Int × Int)) (k : Nat) (l : List Nat) : Prop where
  len : l.length = n * 64
  lt : ∀ x ∈ l, x < 256
  get : ∀ p, p < n * 64 → l.getD p 0 = if (old (p / 64)).isSome = true ∧ dirtyCount (p / 64) old < k then crashByte cur old keep T p else cur.getD p 0
theorem done_start {n : Nat} {cur : List Nat} {old : Nat → Option (List Nat)} {keep : List Bool} {T : List (Int × Int)} (h1 : cur.length = n * 64) (h2 : ∀ x ∈ cur, x < 256) : Done n cur old keep T 0 cur :=
  ⟨h1, h2, fun p _ => by rw [if_neg (by omega)]⟩
theorem done_next {n : Nat} {cur : List Nat} {old : Nat → Option (List Nat)} {keep : List Bool} {T : List (Int × Int)} {k i : Nat} {l lo : List Nat} (h : Done n cur old keep T k l)
    (hk : k < (dirtyList n old).length) (hi : (dirtyList n old).getD k 0 = i) (ho : old i = some lo) (hlo : lo.length = 64 ∧ ∀ x ∈ lo, x < 256) : Done n cur old keep T (k + 1) (putSec l i (tornSec l i (keptBy keep T k) lo)) := by
  obtain ⟨r1, r2, r3⟩ := dirty_rank old n k hk
  rw [hi] at r1 r3
  have hq := torn_len h.len r1 hlo.1 (keptBy_le keep T k)
  refine ⟨putSec_len h.len r1 hq, putSec_lt h.lt (torn_lt h.lt hlo.2), fun p hp => ?_⟩
  rw [putSec_get h.len r1 hq]
  by_cases e : p / 64 = i
  · have c : (old i).isSome = true ∧ dirtyCount i old < k + 1 := ⟨by rw [ho]; rfl, by omega⟩
    have hm : p % 64 < 64 := Nat.mod_lt _ (by decide)
    have c2 : ¬ ((old i).isSome = true ∧ dirtyCount i old < k) := fun h => by omega
    rw [if_pos e, e, if_pos c, torn_get h.len r1 (keptBy_le keep T k) hm]
    have hpp : i * 64 + p % 64 = p := by omega
    rw [hpp]
    unfold crashByte
    rw [e, ho, r3]
    dsimp only
    rw [h.get p hp, e, if_neg c2]
  · rw [if_neg e, h.get p hp]
    by_cases c : (old (p / 64)).isSome = true ∧ dirtyCount (p / 64) old < k
    · rw [if_pos c, if_pos ⟨c.1, by omega⟩]
    · rw [if_neg c, if_neg (fun c' => ?_)]
      have hne : dirtyCount (p / 64) old = k := by
        rcases Nat.lt_or_ge (dirtyCount (p / 64) old) k with h | h
        · exact absurd ⟨c'.1, h⟩ c
        · omega
      have := (dirty_has old n (p / 64) (by omega) c'.1).2
      rw [hne, hi] at this
      exact e this.symm
theorem done_end {n : Nat} {cur : List Nat} {old : Nat → Option (List Nat)} {keep : List Bool} {T : List (Int × Int)} {k : Nat} {l : List Nat} (h : Done n cur old keep T k l) (hk : k = (dirtyList n old).length) : l = crashed n cur old keep T := by
  apply List.ext_getElem
  · rw [h.len]; unfold crashed; rw [List.length_map, List.length_range]
  · intro p h1 h2
    have hp : p < n * 64 := by rw [← h.len]; exact h1
    have e := h.get p hp
    rw [List.getD_eq_getElem?_getD, List.getElem?_eq_getElem h1] at e
    simp only [Option.getD_some] at e
    rw [e]
    simp only [crashed, List.getElem_map, List.getElem_range]
    by_cases c : (old (p / 64)).isSome = true
    · rw [if_pos ⟨c, by rw [hk]; exact (dirty_has old n (p / 64) (by omega) c).1⟩]
    · rw [if_neg (fun c' => c c'.1)]
      have : old (p / 64) = none := by cases h : old (p / 64) with | none => rfl | some _ => rw [h] at c; exact absurd rfl c
      unfold crashByte
      rw [this]
/-- The store of a crash's round. -/
theorem splice_torn {l lo : List Nat} {n i k : Nat} {rest : List Value} (hl : l.length = n * 64) (hi : i < n) (hk : k ≤ 64) (hlo : lo.length = 64) :
    splice (vals l ++ rest) (i * 64 + k) (vals (lo.drop k)) = vals (putSec l i (tornSec l i k lo)) ++ rest := by
  unfold splice putSec tornSec sec
  rw [vals_length, List.length_drop, hlo, List.take_append_of_le_length (by rw [vals_length]; omega), List.drop_append_of_le_length (by rw [vals_length]; omega), show i * 64 + k + (64 - k) = i * 64 + 64 by omega]
  have e : l.take (i * 64 + k) = l.take (i * 64) ++ ((l.drop (i * 64)).take 64).take k := by
    rw [List.take_take, Nat.min_eq_left hk, List.take_add]
  unfold vals
  rw [← List.map_take, e, ← List.map_drop]
  simp [List.map_append]
end Go.Proofs.Ytfacinlpkblopaa
