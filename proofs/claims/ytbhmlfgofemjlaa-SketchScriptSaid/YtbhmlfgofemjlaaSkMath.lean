/-
  Plain mathematics of frequency sketches: four rows of 64 counters in one list, and a number of touches. Nothing of the program.
-/
import Derived.Test.YtbhmlfgofemjlaaKeyMath
namespace Go.Proofs.Ytbhmlfgofemjlaa.Sk
open Go
/-- The counters, row behind row, and the touches. -/
structure St where
  c : List Nat
  n : Nat
def g (c : List Nat) (j : Nat) : Nat := c.getD j 0
/-- The place of a hash's counter in row i. -/
def at_ (h i : Nat) : Nat := i * 64 + Key.row h (i : Int)
def one (c : List Nat) (h i : Nat) : List Nat := c.set (at_ h i) (min (g c (at_ h i) + 1) 15)
def bump (c : List Nat) (h : Nat) : List Nat := one (one (one (one c h 0) h 1) h 2) h 3
def halve (c : List Nat) : List Nat := c.map (· / 2)
def touch (s : St) (h : Nat) : St := if s.n + 1 = 640 then ⟨halve (bump s.c h), 320⟩ else ⟨bump s.c h, s.n + 1⟩
def est (s : St) (h : Nat) : Nat := min (min (min (min 15 (g s.c (at_ h 0))) (g s.c (at_ h 1))) (g s.c (at_ h 2))) (g s.c (at_ h 3))
def new : St := ⟨List.replicate 256 0, 0⟩
def run (s : St) (hs : List Nat) : St := hs.foldl touch s
/-- A sketch as it is made. -/
structure Ok (s : St) : Prop where
  len : s.c.length = 256
  le : ∀ j, g s.c j ≤ 15
  lt : s.n < 640
theorem at_lt {h i : Nat} (hi : i < 4) : at_ h i < 256 := by
  have := Key.row_lt h (i : Int)
  unfold at_; omega
theorem g_set (c : List Nat) (j x k : Nat) (hj : j < c.length) : g (c.set j x) k = if k = j then x else g c k := by
  unfold g
  rw [List.getD_eq_getElem?_getD, List.getElem?_set]
  by_cases e : j = k
  · subst e; simp [hj]
  · rw [if_neg e, if_neg (fun e' => e e'.symm), ← List.getD_eq_getElem?_getD]
theorem one_length (c : List Nat) (h i : Nat) : (one c h i).length = c.length := List.length_set
theorem bump_length (c : List Nat) (h : Nat) : (bump c h).length = c.length := by unfold bump; rw [one_length, one_length, one_length, one_length]
theorem one_g {c : List Nat} (hl : c.length = 256) {h i : Nat} (hi : i < 4) (k : Nat) : g (one c h i) k = if k = at_ h i then min (g c k + 1) 15 else g c k := by
  unfold one
  rw [g_set _ _ _ _ (by rw [hl]; exact at_lt hi)]
  split
  · rename_i e; rw [e]
  · rfl
theorem at_row {h i : Nat} : at_ h i / 64 = i := by
  have := Key.row_lt h (i : Int)
  unfold at_; omega
theorem bump_g {c : List Nat} (hl : c.length = 256) (h k : Nat) (hk : k < 256) : g (bump c h) k = if k = at_ h (k / 64) then min (g c k + 1) 15 else g c k := by
  unfold bump
  have l1 := (one_length c h 0).trans hl
  have l2 := (one_length (one c h 0) h 1).trans l1
  have l3 := (one_length (one (one c h 0) h 1) h 2).trans l2
  rw [one_g l3 (by decide), one_g l2 (by decide), one_g l1 (by decide), one_g hl (by decide)]
  have e0 := @at_row h 0
  have e1 := @at_row h 1
  have e2 := @at_row h 2
  have e3 := @at_row h 3
  rcases (show k / 64 = 0 ∨ k / 64 = 1 ∨ k / 64 = 2 ∨ k / 64 = 3 by omega) with h0 | h0 | h0 | h0 <;> rw [h0]
  · rw [if_neg (fun e => by rw [e] at h0; omega), if_neg (fun e => by rw [e] at h0; omega), if_neg (fun e => by rw [e] at h0; omega)]
  · rw [if_neg (fun e => by rw [e] at h0; omega), if_neg (fun e => by rw [e] at h0; omega), if_neg (show k ≠ at_ h 0 from fun e => by rw [e] at h0; omega)]
  · rw [if_neg (fun e => by rw [e] at h0; omega), if_neg (show k ≠ at_ h 1 from fun e => by rw [e] at h0; omega), if_neg (show k ≠ at_ h 0 from fun e => by rw [e] at h0; omega)]
  · rw [if_neg (show k ≠ at_ h 2 from fun e => by rw [e] at h0; omega), if_neg (show k ≠ at_ h 1 from fun e => by rw [e] at h0; omega), if_neg (show k ≠ at_ h 0 from fun e => by rw [e] at h0; omega)]
theorem bump_le {c : List Nat} (hl : c.length = 256) (hc : ∀ j, g c j ≤ 15) (h j : Nat) : g (bump c h) j ≤ 15 := by
  rcases Nat.lt_or_ge j 256 with hj | hj
  · rw [bump_g hl h j hj]
    split
    · omega
    · exact hc j
  · unfold g
    rw [List.getD_eq_getElem?_getD, List.getElem?_eq_none (by rw [bump_length, hl]; exact hj)]
    exact Nat.zero_le _
theorem halve_g (c : List Nat) (j : Nat) : g (halve c) j = g c j / 2 := by
  unfold halve g
  rw [List.getD_eq_getElem?_getD, List.getD_eq_getElem?_getD, List.getElem?_map]
  cases c[j]? with
  | none => rfl
  | some x => rfl
theorem ok_new : Ok new := ⟨List.length_replicate, fun j => by
  unfold g new
  rw [List.getD_eq_getElem?_getD, List.getElem?_replicate]
  split <;> exact Nat.zero_le _, by decide⟩
theorem ok_touch {s : St} (hs : Ok s) (h : Nat) : Ok (touch s h) := by
  unfold touch
  split
  · refine ⟨by show (List.map _ _).length = _; rw [List.length_map, bump_length, hs.len], fun j => ?_, by show (320 : Nat) < 640; decide⟩
    show g (halve _) j ≤ 15
    rw [halve_g]
    have := bump_le hs.len hs.le h j
    omega
  · rename_i hn
    have := hs.lt
    exact ⟨(bump_length _ _).trans hs.len, bump_le hs.len hs.le h, by show s.n + 1 < 640; omega⟩
theorem ok_run {s : St} (hs : Ok s) : ∀ l : List Nat, Ok (run s l)
  | [] => hs
  | h :: l => by
    show Ok (List.foldl touch (touch s h) l)
    have := ok_run (ok_touch hs h) l
    exact this
theorem run_snoc (s : St) (l : List Nat) (h : Nat) : run s (l ++ [h]) = touch (run s l) h := by
  unfold run; rw [List.foldl_append]; rfl
/-- How many of the hashes have the counter k. -/
def cnt (l : List Nat) (k : Nat) : Nat := l.countP fun h => decide (k = at_ h (k / 64))
theorem cnt_snoc (l : List Nat) (h k : Nat) : cnt (l ++ [h]) k = cnt l k + if k = at_ h (k / 64) then 1 else 0 := by
  unfold cnt
  rw [List.countP_append, List.countP_singleton]
  simp
/-- With fewer than 640 touches, each counter is the number of its touches, up to 15. -/
theorem run_g : ∀ (m : Nat) (l : List Nat), l.length = m → m < 640 → (run new l).n = m ∧ ∀ k, k < 256 → g (run new l).c k = min 15 (cnt l k)
  | 0, l, hl, _ => by
    obtain rfl := List.eq_nil_of_length_eq_zero hl
    refine ⟨rfl, fun k hk => ?_⟩
    show g new.c k = _
    unfold g new
    rw [List.getD_eq_getElem?_getD, List.getElem?_replicate, if_pos hk]
    rfl
  | m + 1, l, hl, hm => by
    obtain ⟨l', h, rfl⟩ : ∃ l' h, l = l' ++ [h] := by
      have hne : l ≠ [] := fun e => by rw [e] at hl; cases hl
      exact ⟨l.dropLast, l.getLast hne, (List.dropLast_concat_getLast hne).symm⟩
    rw [List.length_append, List.length_singleton] at hl
    obtain ⟨i1, i2⟩ := run_g m l' (by omega) (by omega)
    have hok := ok_run ok_new l'
    rw [run_snoc]
    unfold touch
    rw [if_neg (by omega)]
    refine ⟨by show _ + 1 = _; omega, fun k hk => ?_⟩
    show g (bump _ _) k = _
    rw [bump_g hok.len h k hk, i2 k hk, cnt_snoc]
    split <;> omega
theorem cnt_least (l : List Nat) (h i : Nat) : l.count h ≤ cnt l (at_ h i) := by
  unfold cnt List.count
  refine List.countP_mono_left fun x _ hx => decide_eq_true ?_
  have hx : x = h := by simpa using hx
  rw [hx, at_row]
theorem est_eq {l : List Nat} (hl : l.length < 640) (h : Nat) : est (run new l) h = min (min (min (min 15 (min 15 (cnt l (at_ h 0)))) (min 15 (cnt l (at_ h 1)))) (min 15 (cnt l (at_ h 2)))) (min 15 (cnt l (at_ h 3))) := by
  obtain ⟨-, hg⟩ := run_g _ l rfl hl
  unfold est
  rw [hg _ (at_lt (by decide)), hg _ (at_lt (by decide)), hg _ (at_lt (by decide)), hg _ (at_lt (by decide))]
theorem est_least {l : List Nat} (hl : l.length < 640) (h : Nat) : min (l.count h) 15 ≤ est (run new l) h ∧ est (run new l) h ≤ 15 := by
  rw [est_eq hl]
  have key : ∀ i, min (l.count h) 15 ≤ min 15 (cnt l (at_ h i)) := fun i => by have := cnt_least l h i; omega
  exact ⟨Nat.le_min.2 ⟨Nat.le_min.2 ⟨Nat.le_min.2 ⟨Nat.le_min.2 ⟨Nat.min_le_right _ _, key 0⟩, key 1⟩, key 2⟩, key 3⟩,
    Nat.le_trans (Nat.min_le_right _ _) (Nat.min_le_left _ _)⟩
theorem est_perm {l l' : List Nat} (hl : l.length < 640) (hp : l.Perm l') (h : Nat) : est (run new l) h = est (run new l') h := by
  rw [est_eq hl, est_eq (by rw [← hp.length_eq]; exact hl)]
  have e : ∀ k, cnt l k = cnt l' k := fun k => hp.countP_eq _
  rw [e, e, e, e]
/-- The counters of a hash in the first rows increased. -/
def bt (c : List Nat) (h : Nat) : Nat → List Nat
  | 0 => c
  | i + 1 => one (bt c h i) h i
theorem bt_four (c : List Nat) (h : Nat) : bt c h 4 = bump c h := rfl
theorem bt_length (c : List Nat) (h : Nat) : ∀ i, (bt c h i).length = c.length
  | 0 => rfl
  | i + 1 => (one_length _ _ _).trans (bt_length c h i)
/-- The first counters halved. -/
def ht (c : List Nat) : Nat → List Nat
  | 0 => c
  | m + 1 => (ht c m).set m (g (ht c m) m / 2)
theorem ht_length (c : List Nat) : ∀ m, (ht c m).length = c.length
  | 0 => rfl
  | m + 1 => List.length_set.trans (ht_length c m)
theorem ht_g (c : List Nat) : ∀ m, m ≤ c.length → ∀ j, g (ht c m) j = if j < m then g c j / 2 else g c j
  | 0, _, j => by rw [if_neg (Nat.not_lt_zero j)]; rfl
  | m + 1, hm, j => by
    have i1 := ht_g c m (by omega)
    show g ((ht c m).set m _) j = _
    rw [g_set _ _ _ _ (by rw [ht_length]; omega), i1 m, if_neg (Nat.lt_irrefl m), i1 j]
    by_cases e : j = m
    · subst e; rw [if_pos rfl, if_pos (Nat.lt_succ_self j)]
    · rw [if_neg e]
      by_cases e2 : j < m
      · rw [if_pos e2, if_pos (by omega)]
      · rw [if_neg e2, if_neg (by omega)]
theorem ht_all (c : List Nat) : ht c c.length = halve c := by
  apply List.ext_getElem (by rw [ht_length]; unfold halve; rw [List.length_map])
  intro j h1 h2
  have e := ht_g c c.length (Nat.le_refl _) j
  rw [ht_length] at h1
  rw [if_pos h1, ← halve_g] at e
  unfold g at e
  rw [List.getD_eq_getElem?_getD, List.getD_eq_getElem?_getD, List.getElem?_eq_getElem (by rw [ht_length]; exact h1), List.getElem?_eq_getElem h2] at e
  exact e
/-- The least of the counters of a hash in the first rows. -/
def et (c : List Nat) (h : Nat) : Nat → Nat
  | 0 => 15
  | i + 1 => min (et c h i) (g c (at_ h i))
theorem et_four (s : St) (h : Nat) : et s.c h 4 = est s h := rfl
theorem et_le (c : List Nat) (h : Nat) : ∀ i, et c h i ≤ 15
  | 0 => Nat.le_refl _
  | i + 1 => Nat.le_trans (Nat.min_le_left _ _) (et_le c h i)
end Go.Proofs.Ytbhmlfgofemjlaa.Sk
