/-
  Plain mathematics of the index: hash places in a ring, searches and additions, two sets of places of which the old one is moved step by step, and the room that the moving wants. Nothing of the program.
-/
import Derived.Test.YtcdomlgnfbdeoaaKeyMath
namespace Go.Proofs.Ytcdomlgnfbdeoaa.Tb
open Go
def nums (k : ByteArray) : List Nat := k.data.toList.map UInt8.toNat
/-- The hash of a key, as a number. -/
def hs (k : ByteArray) : Nat := Key.V (Key.hash (nums k))
theorem hs_lt (k : ByteArray) : hs k < 18446744073709551616 := Key.V_lt _
theorem nums_length (k : ByteArray) : (nums k).length = k.size := by unfold nums; rw [List.length_map, Array.length_toList]; rfl
/-! Places in a ring. -/
theorem ring {n x : Nat} (h : x < 2 * n) : x % n = if x < n then x else x - n := by
  by_cases h1 : x < n
  · rw [if_pos h1, Nat.mod_eq_of_lt h1]
  · rw [if_neg h1, Nat.mod_eq_sub_mod (by omega), Nat.mod_eq_of_lt (by omega)]
def dist (n a i : Nat) : Nat := (i + n - a) % n
theorem dist_lt {n a i : Nat} (h : i < n) : dist n a i < n := Nat.mod_lt _ (by omega)
theorem to_dist {n a i : Nat} (ha : a < n) (hi : i < n) : (a + dist n a i) % n = i := by
  have h1 : dist n a i = if a ≤ i then i - a else i + n - a := by
    unfold dist
    rw [ring (by omega)]
    by_cases h : a ≤ i
    · rw [if_neg (by omega), if_pos h]; omega
    · rw [if_pos (by omega), if_neg h]
  rw [h1]
  by_cases h : a ≤ i
  · rw [if_pos h, Nat.mod_eq_of_lt (by omega)]; omega
  · rw [if_neg h, ring (by omega), if_neg (by omega)]; omega
theorem dist_to {n a t : Nat} (ha : a < n) (ht : t < n) : dist n a ((a + t) % n) = t := by
  unfold dist
  rw [ring (show a + t < 2 * n by omega)]
  by_cases h : a + t < n
  · rw [if_pos h, ring (by omega), if_neg (by omega)]; omega
  · rw [if_neg h, ring (by omega), if_pos (by omega)]; omega
theorem ring_next (n a t : Nat) : ((a + t) % n + 1) % n = (a + (t + 1)) % n := by rw [Nat.mod_add_mod, Nat.add_assoc]

/-- An entry, and a place: free (0), taken (1) or vacated (2). -/
structure En where
  seq : Int
  off : Int
  len : Int
  exp : Int
  hit : Bool
def En0 : En := ⟨0, 0, 0, 0, false⟩
structure Pl where
  st : Int
  h : Nat
  k : ByteArray
  e : En
def Pl0 : Pl := ⟨0, 0, ⟨#[]⟩, En0⟩
def Gone : Pl := ⟨2, 0, ⟨#[]⟩, En0⟩
def g (l : List Pl) (i : Nat) : Pl := l.getD i Pl0
theorem g_out {l : List Pl} {i : Nat} (h : l.length ≤ i) : g l i = Pl0 := by
  unfold g; rw [List.getD_eq_getElem?_getD, List.getElem?_eq_none h]; rfl
theorem g_in {l : List Pl} {i : Nat} (h : i < l.length) : g l i = l[i] := by
  unfold g; rw [List.getD_eq_getElem?_getD, List.getElem?_eq_getElem h]; rfl
theorem g_lt {l : List Pl} {i : Nat} (h : (g l i).st ≠ 0) : i < l.length := by
  rcases Nat.lt_or_ge i l.length with h1 | h1
  · exact h1
  · rw [g_out h1] at h; exact absurd rfl h
theorem g_set {l : List Pl} {i : Nat} (x : Pl) (h : i < l.length) (j : Nat) : g (l.set i x) j = if i = j then x else g l j := by
  unfold g
  rw [List.getD_eq_getElem?_getD, List.getElem?_set, List.getD_eq_getElem?_getD]
  by_cases e : i = j
  · rw [if_pos e, if_pos h, if_pos e]; rfl
  · rw [if_neg e, if_neg e]
theorem g_self {l : List Pl} {i : Nat} (x : Pl) (h : i < l.length) : g (l.set i x) i = x := by rw [g_set x h, if_pos rfl]
theorem g_else {l : List Pl} {i j : Nat} (x : Pl) (h : i < l.length) (e : i ≠ j) : g (l.set i x) j = g l j := by rw [g_set x h, if_neg e]
/-- How many places are taken, how many are not free. -/
def cnt (l : List Pl) : Nat := l.countP (fun p => decide (p.st = 1))
def use (l : List Pl) : Nat := l.countP (fun p => decide (p.st ≠ 0))
theorem cnt_set {l : List Pl} {i : Nat} (x : Pl) (h : i < l.length) : cnt (l.set i x) = (cnt l - if (g l i).st = 1 then 1 else 0) + if x.st = 1 then 1 else 0 := by
  unfold cnt
  rw [List.countP_set h, g_in h]
  simp only [decide_eq_true_eq]
theorem use_set {l : List Pl} {i : Nat} (x : Pl) (h : i < l.length) : use (l.set i x) = (use l - if (g l i).st ≠ 0 then 1 else 0) + if x.st ≠ 0 then 1 else 0 := by
  unfold use
  rw [List.countP_set h, g_in h]
  simp only [decide_eq_true_eq]
theorem cnt_pos {l : List Pl} {i : Nat} (h : (g l i).st = 1) : 0 < cnt l := by
  have hi : i < l.length := g_lt (by rw [h]; decide)
  rw [g_in hi] at h
  exact List.countP_pos_iff.2 ⟨l[i], List.getElem_mem hi, decide_eq_true h⟩
theorem use_pos {l : List Pl} {i : Nat} (h : (g l i).st ≠ 0) : 0 < use l := by
  have hi : i < l.length := g_lt h
  rw [g_in hi] at h
  exact List.countP_pos_iff.2 ⟨l[i], List.getElem_mem hi, decide_eq_true h⟩
theorem cnt_use (l : List Pl) : cnt l ≤ use l := by
  unfold cnt use
  refine List.countP_mono_left fun x _ h => ?_
  have := of_decide_eq_true h
  exact decide_eq_true (by rw [this]; decide)
theorem cnt_le (l : List Pl) : cnt l ≤ l.length := List.countP_le_length
theorem free_of {l : List Pl} (h : use l < l.length) : ∃ f, f < l.length ∧ (g l f).st = 0 := by
  refine Classical.byContradiction fun hn => ?_
  have : use l = l.length := List.countP_eq_length.2 fun a ha => by
    obtain ⟨i, hi, rfl⟩ := List.getElem_of_mem ha
    refine decide_eq_true fun e => hn ⟨i, hi, ?_⟩
    rw [g_in hi]; exact e
  omega
/-- The place t steps from a on. -/
def stp (l : List Pl) (a t : Nat) : Nat := (a + t) % l.length
def home (k : ByteArray) (b : Nat) : Nat := Key.home (hs k) (b : Int)
theorem home_lt (k : ByteArray) (b : Nat) (h : 3 ≤ b) (h2 : b ≤ 30) : home k b < 2 ^ b := by
  unfold home
  rw [Key.home_in _ b (by omega) h2, Nat.div_lt_iff_lt_mul (Nat.two_pow_pos _), ← Nat.pow_add, show b + (64 - b) = 64 by omega]
  exact hs_lt k
/-- 2^b places (or none), of which u are not free, at most three quarters; every key is found from its home on. -/
structure Good (l : List Pl) (b u : Nat) : Prop where
  shape : (l = [] ∧ b = 0) ∨ (l.length = 2 ^ b ∧ 3 ≤ b ∧ b ≤ 30)
  used : u = use l
  st : ∀ i, (g l i).st = 0 ∨ (g l i).st = 1 ∨ (g l i).st = 2
  room : 4 * u ≤ 3 * l.length
  hash : ∀ i, (g l i).st = 1 → (g l i).h = hs (g l i).k
  reach : ∀ i t, (g l i).st = 1 → t < dist l.length (home (g l i).k b) i → (g l (stp l (home (g l i).k b) t)).st ≠ 0
  uniq : ∀ i j, (g l i).st = 1 → (g l j).st = 1 → (g l i).k = (g l j).k → i = j
theorem Good.empty : Good [] 0 0 := ⟨.inl ⟨rfl, rfl⟩, rfl, fun i => .inl rfl, Nat.le_refl _, (fun i h => by cases h), (fun i t h => by cases h), (fun i j h => by cases h)⟩
section
variable {l : List Pl} {b u : Nat}
theorem Good.home_in (h : Good l b u) (hl : 0 < l.length) (k : ByteArray) : home k b < l.length := by
  rcases h.shape with ⟨rfl, _⟩ | ⟨e, h1, h2⟩
  · exact absurd hl (Nat.lt_irrefl _)
  · rw [e]; exact Tb.home_lt k b h1 h2
theorem Good.free (h : Good l b u) (hl : 0 < l.length) : ∃ f, f < l.length ∧ (g l f).st = 0 := free_of (by have := h.used; have := h.room; omega)
theorem stp_lt (hl : 0 < l.length) (a t : Nat) : stp l a t < l.length := Nat.mod_lt _ hl
/-- What a search has passed: neither free nor the key's. -/
def Seen (l : List Pl) (a : Nat) (k : ByteArray) (t : Nat) : Prop := ∀ s, s < t → (g l (stp l a s)).st ≠ 0 ∧ ¬ ((g l (stp l a s)).st = 1 ∧ (g l (stp l a s)).k = k)
theorem Seen.zero (l : List Pl) (a : Nat) (k : ByteArray) : Seen l a k 0 := fun _ hs => absurd hs (Nat.not_lt_zero _)
theorem Seen.next {a t : Nat} {k : ByteArray} (h : Seen l a k t) (h1 : (g l (stp l a t)).st ≠ 0) (h2 : ¬ ((g l (stp l a t)).st = 1 ∧ (g l (stp l a t)).k = k)) : Seen l a k (t + 1) := fun s hs => by
  rcases Nat.lt_or_eq_of_le (Nat.lt_succ_iff.1 hs) with e | rfl
  · exact h s e
  · exact ⟨h1, h2⟩
/-- A search meets the free place f within the distance. -/
theorem Seen.bound {a t f : Nat} {k : ByteArray} (h : Seen l a k t) (ha : a < l.length) (hf : f < l.length) (h0 : (g l f).st = 0) : t ≤ dist l.length a f := by
  refine Nat.le_of_not_lt fun e => ?_
  have := (h _ e).1
  unfold stp at this
  rw [to_dist ha hf] at this
  exact this h0
theorem Seen.bound1 {a t f : Nat} {k : ByteArray} (h : Seen l a k t) (ha : a < l.length) (hf : f < l.length) (h0 : (g l f).st = 0) (h1 : (g l (stp l a t)).st ≠ 0) : t + 1 ≤ dist l.length a f := by
  have h2 := h.bound ha hf h0
  rcases Nat.lt_or_eq_of_le h2 with e | e
  · exact e
  · unfold stp at h1
    rw [e, to_dist ha hf] at h1
    exact absurd h0 h1
/-- A search that ends at a free place: the key is nowhere. -/
theorem Seen.none {t : Nat} {k : ByteArray} (h : Seen l (home k b) k t) (hG : Good l b u) (h0 : (g l (stp l (home k b) t)).st = 0) : ∀ i, (g l i).st = 1 → (g l i).k ≠ k := by
  intro i h1 hk
  have hi : i < l.length := g_lt (by rw [h1]; decide)
  have ha := hG.home_in (by omega) k
  have e := to_dist ha hi
  have hr := hG.reach i t h1
  rw [hk] at hr
  rcases Nat.lt_trichotomy (dist l.length (home k b) i) t with e1 | e1 | e1
  · have := (h _ e1).2
    unfold stp at this
    rw [e] at this
    exact this ⟨h1, hk⟩
  · rw [← e1] at h0
    unfold stp at h0
    rw [e, h1] at h0
    cases h0
  · exact hr e1 h0
/-- What a search for a place has passed: taken places. -/
def Full (l : List Pl) (a t : Nat) : Prop := ∀ s, s < t → (g l (stp l a s)).st = 1
theorem Full.zero (l : List Pl) (a : Nat) : Full l a 0 := fun _ hs => absurd hs (Nat.not_lt_zero _)
theorem Full.next {a t : Nat} (h : Full l a t) (h1 : (g l (stp l a t)).st = 1) : Full l a (t + 1) := fun s hs => by
  rcases Nat.lt_or_eq_of_le (Nat.lt_succ_iff.1 hs) with e | rfl
  · exact h s e
  · exact h1
theorem Full.bound {a t f : Nat} (h : Full l a t) (ha : a < l.length) (hf : f < l.length) (h0 : (g l f).st = 0) : t ≤ dist l.length a f := by
  refine Nat.le_of_not_lt fun e => ?_
  have := h _ e
  unfold stp at this
  rw [to_dist ha hf, h0] at this
  cases this
theorem Full.bound1 {a t f : Nat} (h : Full l a t) (ha : a < l.length) (hf : f < l.length) (h0 : (g l f).st = 0) (h1 : (g l (stp l a t)).st = 1) : t + 1 ≤ dist l.length a f := by
  have h2 := h.bound ha hf h0
  rcases Nat.lt_or_eq_of_le h2 with e | e
  · exact e
  · unfold stp at h1
    rw [e, to_dist ha hf, h0] at h1
    cases h1
theorem stp_set (i : Nat) (x : Pl) (a t : Nat) : stp (l.set i x) a t = stp l a t := by unfold stp; rw [List.length_set]
/-- A place that is not free gets another thing that is not free, under the same key or under none. -/
theorem Good.put (h : Good l b u) (i : Nat) (x : Pl) (hi : (g l i).st ≠ 0) (hx : x.st = 2 ∨ (x.st = 1 ∧ (g l i).st = 1 ∧ x.h = (g l i).h ∧ x.k = (g l i).k)) : Good (l.set i x) b u := by
  have hl : i < l.length := g_lt hi
  have hx0 : x.st ≠ 0 := by rcases hx with e | ⟨e, _⟩ <;> (rw [e]; decide)
  have old : ∀ j, (g (l.set i x) j).st = 1 → (g l j).st = 1 ∧ (g (l.set i x) j).h = (g l j).h ∧ (g (l.set i x) j).k = (g l j).k := by
    intro j hj
    rw [g_set x hl] at hj ⊢
    by_cases e : i = j
    · subst e
      rw [if_pos rfl] at hj ⊢
      rcases hx with e | ⟨_, h1, h2, h3⟩
      · rw [e] at hj; cases hj
      · exact ⟨h1, h2, h3⟩
    · rw [if_neg e] at hj ⊢
      exact ⟨hj, rfl, rfl⟩
  have nz : ∀ j, (g l j).st ≠ 0 → (g (l.set i x) j).st ≠ 0 := by
    intro j hj
    rw [g_set x hl]
    by_cases e : i = j
    · rw [if_pos e]; exact hx0
    · rw [if_neg e]; exact hj
  refine ⟨?_, ?_, ?_, ?_, ?_, ?_, ?_⟩
  · rcases h.shape with ⟨rfl, h1⟩ | ⟨h1, h2⟩
    · exact absurd hl (Nat.not_lt_zero _)
    · exact .inr ⟨by rw [List.length_set]; exact h1, h2⟩
  · have := use_pos hi
    rw [use_set x hl, if_pos hi, if_pos hx0, h.used]; omega
  · intro j
    rw [g_set x hl]
    by_cases e : i = j
    · rw [if_pos e]
      rcases hx with e | ⟨e, _⟩
      · exact .inr (.inr e)
      · exact .inr (.inl e)
    · rw [if_neg e]; exact h.st j
  · rw [List.length_set]; exact h.room
  · intro j hj
    obtain ⟨h1, h2, h3⟩ := old j hj
    rw [h2, h3]; exact h.hash j h1
  · intro j t hj ht
    obtain ⟨h1, h2, h3⟩ := old j hj
    rw [h3, List.length_set] at ht
    rw [h3, stp_set]
    exact nz _ (h.reach j t h1 ht)
  · intro j j' hj hj' e
    obtain ⟨h1, h2, h3⟩ := old j hj
    obtain ⟨h1', h2', h3'⟩ := old j' hj'
    rw [h3, h3'] at e
    exact h.uniq j j' h1 h1' e
/-- A new key in the first place that is not taken. -/
theorem Good.add (h : Good l b u) (hl : 0 < l.length) (x : Pl) (hx : x.st = 1) (hh : x.h = hs x.k) (hn : ∀ i, (g l i).st = 1 → (g l i).k ≠ x.k) (hr : 4 * (u + 1) ≤ 3 * l.length) (t : Nat) (hf : Full l (home x.k b) t) (h0 : (g l (stp l (home x.k b) t)).st ≠ 1) :
    Good (l.set (stp l (home x.k b) t) x) b (if (g l (stp l (home x.k b) t)).st = 0 then u + 1 else u) := by
  have hi := stp_lt hl (home x.k b) t
  have ha := h.home_in hl x.k
  obtain ⟨f, hf1, hf2⟩ := h.free hl
  have htl : t < l.length := Nat.lt_of_le_of_lt (hf.bound ha hf1 hf2) (dist_lt hf1)
  have hd : dist l.length (home x.k b) (stp l (home x.k b) t) = t := dist_to ha htl
  generalize hI : stp l (home x.k b) t = i at *
  have hx0 : x.st ≠ 0 := by rw [hx]; decide
  have nz : ∀ j, (g l j).st ≠ 0 → (g (l.set i x) j).st ≠ 0 := by
    intro j hj
    rw [g_set x hi]
    by_cases e : i = j
    · rw [if_pos e]; exact hx0
    · rw [if_neg e]; exact hj
  have hru : 4 * (if (g l i).st = 0 then u + 1 else u) ≤ 3 * l.length := by split <;> omega
  refine ⟨?_, ?_, ?_, ?_, ?_, ?_, ?_⟩
  · rcases h.shape with ⟨rfl, h1⟩ | ⟨h1, h2⟩
    · exact absurd hi (Nat.not_lt_zero _)
    · exact .inr ⟨by rw [List.length_set]; exact h1, h2⟩
  · rw [use_set x hi, if_pos hx0, h.used]
    by_cases e : (g l i).st = 0
    · rw [if_pos e, if_neg (fun h => h e)]; omega
    · have := use_pos e
      rw [if_neg e, if_pos e]; omega
  · intro j
    rw [g_set x hi]
    by_cases e : i = j
    · rw [if_pos e]; exact .inr (.inl hx)
    · rw [if_neg e]; exact h.st j
  · rw [List.length_set]; exact hru
  · intro j hj
    rw [g_set x hi] at hj ⊢
    by_cases e : i = j
    · rw [if_pos e]; exact hh
    · rw [if_neg e] at hj ⊢; exact h.hash j hj
  · intro j s hj hs
    rw [stp_set]
    rw [List.length_set] at hs
    rw [g_set x hi] at hj
    by_cases e : i = j
    · subst e
      rw [g_self x hi] at hs ⊢
      rw [hd] at hs
      exact nz _ (by rw [hf s hs]; decide)
    · rw [if_neg e] at hj
      rw [g_else x hi e] at hs ⊢
      exact nz _ (h.reach j s hj hs)
  · intro j j' hj hj' e
    rw [g_set x hi] at hj hj' e
    rw [g_set x hi] at e
    by_cases e1 : i = j
    · by_cases e2 : i = j'
      · exact e1.symm.trans e2
      · rw [if_neg e2] at hj' e
        rw [if_pos e1] at e
        exact absurd e.symm (hn j' hj')
    · rw [if_neg e1] at hj e
      by_cases e2 : i = j'
      · rw [if_pos e2] at e
        exact absurd e (hn j hj)
      · rw [if_neg e2] at hj' e
        exact h.uniq j j' hj hj' e
end
/-- A key and its entry are there. -/
def Has (l : List Pl) (k : ByteArray) (e : En) : Prop := ∃ i, (g l i).st = 1 ∧ (g l i).k = k ∧ (g l i).e = e
theorem Has.nil (k : ByteArray) (e : En) : ¬ Has [] k e := fun ⟨_, h, _⟩ => by cases h
theorem has_set {l : List Pl} {i : Nat} (x : Pl) (h : i < l.length) (k : ByteArray) (e : En) :
    Has (l.set i x) k e ↔ (x.st = 1 ∧ x.k = k ∧ x.e = e) ∨ ∃ j, j ≠ i ∧ (g l j).st = 1 ∧ (g l j).k = k ∧ (g l j).e = e := by
  constructor
  · rintro ⟨j, h1, h2, h3⟩
    rw [g_set x h] at h1 h2 h3
    by_cases ee : i = j
    · rw [if_pos ee] at h1 h2 h3; exact .inl ⟨h1, h2, h3⟩
    · rw [if_neg ee] at h1 h2 h3; exact .inr ⟨j, fun e => ee e.symm, h1, h2, h3⟩
  · rintro (⟨h1, h2, h3⟩ | ⟨j, hj, h1, h2, h3⟩)
    · exact ⟨i, by rw [g_self x h]; exact ⟨h1, h2, h3⟩⟩
    · exact ⟨j, by rw [g_else x h (fun e => hj e.symm)]; exact ⟨h1, h2, h3⟩⟩
/-- A place that was not taken is taken now. -/
theorem has_add {l : List Pl} {i : Nat} (x : Pl) (h : i < l.length) (hx : x.st = 1) (h0 : (g l i).st ≠ 1) (k : ByteArray) (e : En) : Has (l.set i x) k e ↔ (x.k = k ∧ x.e = e) ∨ Has l k e := by
  rw [has_set x h]
  constructor
  · rintro (⟨_, h2, h3⟩ | ⟨j, _, h1, h2, h3⟩)
    · exact .inl ⟨h2, h3⟩
    · exact .inr ⟨j, h1, h2, h3⟩
  · rintro (⟨h2, h3⟩ | ⟨j, h1, h2, h3⟩)
    · exact .inl ⟨hx, h2, h3⟩
    · exact .inr ⟨j, fun e => h0 (e ▸ h1), h1, h2, h3⟩
/-- A taken place is vacated. -/
theorem has_del {l : List Pl} {b u i : Nat} (hG : Good l b u) (x : Pl) (hi : (g l i).st = 1) (hx : x.st ≠ 1) (k : ByteArray) (e : En) : Has (l.set i x) k e ↔ Has l k e ∧ k ≠ (g l i).k := by
  have h : i < l.length := g_lt (by rw [hi]; decide)
  rw [has_set x h]
  constructor
  · rintro (⟨h1, _⟩ | ⟨j, hj, h1, h2, h3⟩)
    · exact absurd h1 hx
    · exact ⟨⟨j, h1, h2, h3⟩, fun e => hj (hG.uniq j i h1 hi (h2.trans e))⟩
  · rintro ⟨⟨j, h1, h2, h3⟩, hk⟩
    exact .inr ⟨j, fun e => hk (by rw [← h2, e]), h1, h2, h3⟩
/-- A taken place gets another entry. -/
theorem has_new {l : List Pl} {b u i : Nat} (hG : Good l b u) (x : Pl) (hi : (g l i).st = 1) (hx : x.st = 1) (hk : x.k = (g l i).k) (k : ByteArray) (e : En) : Has (l.set i x) k e ↔ (k = (g l i).k ∧ e = x.e) ∨ (k ≠ (g l i).k ∧ Has l k e) := by
  have h : i < l.length := g_lt (by rw [hi]; decide)
  rw [has_set x h]
  constructor
  · rintro (⟨h1, h2, h3⟩ | ⟨j, hj, h1, h2, h3⟩)
    · exact .inl ⟨h2.symm.trans hk, h3.symm⟩
    · exact .inr ⟨fun e => hj (hG.uniq j i h1 hi (h2.trans e)), j, h1, h2, h3⟩
  · rintro (⟨h2, h3⟩ | ⟨hn, j, h1, h2, h3⟩)
    · exact .inl ⟨hx, hk.trans h2.symm, h3.symm⟩
    · exact .inr ⟨j, fun e => hn (by rw [← h2, e]), h1, h2, h3⟩

theorem cnt_nil : cnt [] = 0 := rfl
theorem cnt_zero {l : List Pl} (h : ∀ i, (g l i).st ≠ 1) : cnt l = 0 := by
  refine Nat.eq_zero_of_not_pos fun hp => ?_
  obtain ⟨a, ha, h1⟩ := List.countP_pos_iff.1 hp
  obtain ⟨i, hi, rfl⟩ := List.getElem_of_mem ha
  exact h i (by rw [g_in hi]; exact of_decide_eq_true h1)
theorem g_rep (n i : Nat) : g (List.replicate n Pl0) i = Pl0 := by
  rcases Nat.lt_or_ge i n with h | h
  · rw [g_in (by rw [List.length_replicate]; exact h), List.getElem_replicate]
  · exact g_out (by rw [List.length_replicate]; exact h)
/-- New places. -/
theorem Good.fresh (b : Nat) (h : 3 ≤ b) (h2 : b ≤ 30) : Good (List.replicate (2 ^ b) Pl0) b 0 := by
  refine ⟨.inr ⟨List.length_replicate, h, h2⟩, ?_, ?_, Nat.zero_le _, ?_, ?_, ?_⟩
  · unfold use
    rw [List.countP_replicate]; rfl
  · intro i; rw [g_rep]; exact .inl rfl
  · intro i hi; rw [g_rep] at hi; cases hi
  · intro i t hi; rw [g_rep] at hi; cases hi
  · intro i j hi; rw [g_rep] at hi; cases hi
theorem has_fresh (n : Nat) (k : ByteArray) (e : En) : ¬ Has (List.replicate n Pl0) k e := fun ⟨i, h, _⟩ => by rw [g_rep] at h; cases h
/-- A table: its new places, its old ones, how far the moving has come, the number of entries. M bounds that, s is what is left of the room that the moving wants. -/
structure Ok (M s : Nat) (l : List Pl) (b u : Nat) (o : List Pl) (bo uo : Nat) (nx c : Nat) : Prop where
  gf : Good l b u
  go : Good o bo uo
  apart : ∀ k e e', Has l k e → ¬ Has o k e'
  count : c = cnt l + cnt o
  nxle : nx ≤ o.length
  past : ∀ i, i < nx → (g o i).st ≠ 1
  pot : o ≠ [] → 32 * u + 36 * cnt o + (o.length - nx) + s ≤ 24 * l.length
  most : c ≤ M
  len : l.length ≤ 8 * (M + 1)
  leno : o.length ≤ 8 * (M + 1)
theorem Ok.new (M : Nat) : Ok M 32 [] 0 0 [] 0 0 0 0 := ⟨Good.empty, Good.empty, fun k e _ h => absurd h (Has.nil k e), rfl, Nat.le_refl _, fun _ h => absurd h (Nat.not_lt_zero _), fun h => absurd rfl h, Nat.zero_le _, Nat.zero_le _, Nat.zero_le _⟩
section
variable {M s : Nat} {l : List Pl} {b u : Nat} {o : List Pl} {bo uo : Nat} {nx c : Nat}
theorem Ok.slack {s' : Nat} (h : Ok M s l b u o bo uo nx c) (hs : s' ≤ s) : Ok M s' l b u o bo uo nx c := ⟨h.gf, h.go, h.apart, h.count, h.nxle, h.past, fun e => by have := h.pot e; omega, h.most, h.len, h.leno⟩
theorem ne_nil_len {l : List Pl} (h : 0 < l.length) : l ≠ [] := fun e => by rw [e] at h; exact absurd h (Nat.lt_irrefl _)
/-- One look at an old place that is not taken. -/
theorem Ok.pass (h : Ok M s l b u o bo uo nx c) (hn : nx < o.length) (h0 : (g o nx).st ≠ 1) : Ok M (s + 1) l b u o bo uo (nx + 1) c :=
  ⟨h.gf, h.go, h.apart, h.count, hn, fun i hi => by
    rcases Nat.lt_or_eq_of_le (Nat.lt_succ_iff.1 hi) with e | rfl
    · exact h.past i e
    · exact h0, fun e => by have := h.pot e; omega, h.most, h.len, h.leno⟩
theorem Ok.room (h : Ok M s l b u o bo uo nx c) (hn : (g o nx).st = 1) : 0 < l.length ∧ 4 * (u + 1) ≤ 3 * l.length := by
  have h1 := cnt_pos hn
  have h2 : nx < o.length := g_lt (by rw [hn]; decide)
  have h3 := h.pot (ne_nil_len (by omega))
  omega
theorem Ok.strange (h : Ok M s l b u o bo uo nx c) {i : Nat} (hn : (g o i).st = 1) : ∀ j, (g l j).st = 1 → (g l j).k ≠ (g o i).k :=
  fun j hj e => h.apart _ _ _ ⟨j, hj, e, rfl⟩ ⟨i, hn, rfl, rfl⟩
/-- One entry moves. -/
theorem Ok.carry (h : Ok M s l b u o bo uo nx c) (hn : (g o nx).st = 1) (t : Nat) (hf : Full l (home (g o nx).k b) t) (h0 : (g l (stp l (home (g o nx).k b) t)).st ≠ 1) :
    Ok M (s + 5) (l.set (stp l (home (g o nx).k b) t) (g o nx)) b (if (g l (stp l (home (g o nx).k b) t)).st = 0 then u + 1 else u) (o.set nx Gone) bo uo (nx + 1) c ∧
    ∀ k e, (Has (l.set (stp l (home (g o nx).k b) t) (g o nx)) k e ∨ Has (o.set nx Gone) k e) ↔ (Has l k e ∨ Has o k e) := by
  obtain ⟨hl, hr⟩ := h.room hn
  have hx : nx < o.length := g_lt (by rw [hn]; decide)
  have hi := stp_lt hl (home (g o nx).k b) t
  have hG := h.gf.add hl (g o nx) hn (h.go.hash nx hn) (h.strange hn) hr t hf h0
  generalize stp l (home (g o nx).k b) t = i at *
  have ha := has_add (g o nx) hi hn h0
  have hd := has_del h.go Gone hn (show Gone.st ≠ 1 by decide)
  have hc1 : cnt (l.set i (g o nx)) = cnt l + 1 := by rw [cnt_set _ hi, if_neg h0, if_pos hn]; omega
  have hc2 : cnt (o.set nx Gone) + 1 = cnt o := by
    have := cnt_pos hn
    rw [cnt_set _ hx, if_pos hn, if_neg (show Gone.st ≠ 1 by decide)]; omega
  refine ⟨⟨hG, h.go.put nx Gone (by rw [hn]; decide) (.inl rfl), ?_, ?_, ?_, ?_, ?_, h.most, ?_, ?_⟩, ?_⟩
  · intro k e e' h1 h2
    rw [hd] at h2
    rw [ha] at h1
    rcases h1 with ⟨h1, _⟩ | h1
    · exact h2.2 h1.symm
    · exact h.apart k e e' h1 h2.1
  · have := h.count; omega
  · rw [List.length_set]; exact hx
  · intro j hj
    rw [g_set _ hx]
    by_cases e : nx = j
    · rw [if_pos e]; decide
    · rw [if_neg e]; exact h.past j (by omega)
  · intro _
    have := h.pot (ne_nil_len (by omega))
    rw [List.length_set, List.length_set]
    split <;> omega
  · rw [List.length_set]; exact h.len
  · rw [List.length_set]; exact h.leno
  · intro k e
    rw [ha, hd]
    constructor
    · rintro ((⟨h1, h2⟩ | h1) | h1)
      · exact .inr ⟨nx, hn, h1, h2⟩
      · exact .inl h1
      · exact .inr h1.1
    · rintro (h1 | h1)
      · exact .inl (.inr h1)
      · by_cases ek : k = (g o nx).k
        · obtain ⟨j, h3, h4, h5⟩ := h1
          obtain rfl := h.go.uniq j nx h3 hn (h4.trans ek)
          exact .inl (.inl ⟨h4, h5⟩)
        · exact .inr ⟨h1, ek⟩
/-- The moving is over. -/
theorem Ok.over (h : Ok M s l b u o bo uo nx c) (hn : nx = o.length) (s' : Nat) : Ok M s' l b u [] 0 0 0 c ∧ ∀ k e, (Has l k e ∨ Has [] k e) ↔ (Has l k e ∨ Has o k e) := by
  have h0 : ∀ i, (g o i).st ≠ 1 := fun i hi => by
    have := g_lt (l := o) (i := i) (by rw [hi]; decide)
    exact h.past i (by omega) hi
  have hc := cnt_zero h0
  refine ⟨⟨h.gf, Good.empty, fun k e e' _ => Has.nil k e', ?_, Nat.le_refl _, fun _ hi => absurd hi (Nat.not_lt_zero _), fun e => absurd rfl e, h.most, h.len, Nat.zero_le _⟩, fun k e => ?_⟩
  · have := h.count; rw [cnt_nil]; omega
  · constructor
    · rintro (h1 | h1)
      · exact .inl h1
      · exact absurd h1 (Has.nil k e)
    · rintro (h1 | ⟨i, h1, _⟩)
      · exact .inl h1
      · exact absurd h1 (h0 i)
/-- Where there is no room, nothing is left to be moved. -/
theorem Ok.still (h : Ok M 32 l b u o bo uo nx c) (hf : 3 * l.length < 4 * (u + 1)) : o = [] := by
  refine Classical.byContradiction fun e => ?_
  have := h.pot e
  omega
/-- The number of bits of the new places. -/
def grown (l : List Pl) (b c : Nat) : Nat := if 3 ≤ (if 3 * l.length < 8 * (c + 1) then b + 1 else b) then (if 3 * l.length < 8 * (c + 1) then b + 1 else b) else 3
theorem Ok.grown_len (h : Ok M s l b u [] bo uo nx c) (hM : c < M) (hM2 : M ≤ 1048576) : 3 ≤ grown l b c ∧ grown l b c ≤ 30 ∧ 2 ^ grown l b c ≤ 8 * (M + 1) ∧ 28 * c + l.length + 8 * c + 64 ≤ 24 * 2 ^ grown l b c + (if l = [] then 64 else 0) := by
  have hu := h.gf.used
  have hr := h.gf.room
  have hc : c ≤ u := by
    have := h.count
    rw [cnt_nil] at this
    have := cnt_use l
    omega
  have key : ∀ q : Nat, 2 ^ q ≤ 8 * (M + 1) → q ≤ 30 := fun q hq => Nat.le_of_not_lt fun e => by
    have : (2 : Nat) ^ 31 ≤ 2 ^ q := Nat.pow_le_pow_right (by decide) e
    have : (2 : Nat) ^ 31 = 2147483648 := by decide
    omega
  rcases h.gf.shape with ⟨rfl, rfl⟩ | ⟨e1, e2, e3⟩
  · have : grown [] 0 c = 3 := by
      unfold grown
      rw [if_pos (show 3 * ([] : List Pl).length < 8 * (c + 1) by rw [List.length_nil]; omega), if_neg (by decide)]
    rw [this, if_pos rfl]
    rw [List.length_nil] at hr ⊢
    refine ⟨by decide, by decide, ?_, ?_⟩ <;> omega
  · have hne : l ≠ [] := fun e => by rw [e] at e1; have := Nat.two_pow_pos b; rw [List.length_nil] at e1; omega
    rw [if_neg hne]
    have h8 : 8 ≤ l.length := by
      rw [e1]
      have : (2 : Nat) ^ 3 ≤ 2 ^ b := Nat.pow_le_pow_right (by decide) e2
      omega
    by_cases hd : 3 * l.length < 8 * (c + 1)
    · have : grown l b c = b + 1 := by
        unfold grown
        rw [if_pos hd, if_pos (by omega)]
      rw [this, Nat.pow_succ, ← e1]
      have h2 : l.length * 2 ≤ 8 * (M + 1) := by omega
      exact ⟨by omega, key _ (by rw [Nat.pow_succ, ← e1]; exact h2), h2, by omega⟩
    · have : grown l b c = b := by
        unfold grown
        rw [if_neg hd, if_pos e2]
      rw [this, ← e1]
      exact ⟨e2, e3, h.len, by omega⟩
/-- Growth: the places become old ones. -/
theorem Ok.grow (h : Ok M s l b u [] bo uo nx c) (hM : c < M) (hM2 : M ≤ 1048576) :
    Ok M 32 (List.replicate (2 ^ grown l b c) Pl0) (grown l b c) 0 l b u 0 c ∧ (∀ k e, (Has (List.replicate (2 ^ grown l b c) Pl0) k e ∨ Has l k e) ↔ (Has l k e ∨ Has [] k e)) ∧ 4 ≤ 3 * 2 ^ grown l b c := by
  obtain ⟨g1, g2, g3, g4⟩ := h.grown_len hM hM2
  have h8 : 8 ≤ 2 ^ grown l b c := by
    have : (2 : Nat) ^ 3 ≤ 2 ^ grown l b c := Nat.pow_le_pow_right (by decide) g1
    omega
  have hc := h.count
  rw [cnt_nil] at hc
  refine ⟨⟨Good.fresh _ g1 g2, h.gf, fun k e _ h1 => absurd h1 (has_fresh _ k e), ?_, Nat.zero_le _, fun _ hi => absurd hi (Nat.not_lt_zero _), ?_, h.most, ?_, h.len⟩, fun k e => ?_, by omega⟩
  · rw [cnt_zero (l := List.replicate _ _) (fun i => by rw [g_rep]; decide)]; omega
  · intro hne
    rw [if_neg hne] at g4
    rw [List.length_replicate]; omega
  · rw [List.length_replicate]; exact g3
  · constructor
    · rintro (h1 | h1)
      · exact absurd h1 (has_fresh _ k e)
      · exact .inl h1
    · rintro (h1 | h1)
      · exact .inr h1
      · exact absurd h1 (Has.nil k e)
/-- What stands after a Set of a key that was not there. -/
theorem Ok.put (h : Ok M 32 l b u o bo uo nx c) (hM : c < M) (hl : 0 < l.length) (hr : 4 * (u + 1) ≤ 3 * l.length) (x : Pl) (hx : x.st = 1) (hh : x.h = hs x.k) (hn : ∀ i, (g l i).st = 1 → (g l i).k ≠ x.k) (hn' : ∀ i, (g o i).st = 1 → (g o i).k ≠ x.k) (t : Nat) (hf : Full l (home x.k b) t) (h0 : (g l (stp l (home x.k b) t)).st ≠ 1) :
    Ok M 0 (l.set (stp l (home x.k b) t) x) b (if (g l (stp l (home x.k b) t)).st = 0 then u + 1 else u) o bo uo nx (c + 1) ∧
    ∀ k e, (Has (l.set (stp l (home x.k b) t) x) k e ∨ Has o k e) ↔ (x.k = k ∧ x.e = e) ∨ (x.k ≠ k ∧ (Has l k e ∨ Has o k e)) := by
  have hi := stp_lt hl (home x.k b) t
  have hG := h.gf.add hl x hx hh hn hr t hf h0
  generalize stp l (home x.k b) t = i at *
  have ha := has_add x hi hx h0
  have hc1 : cnt (l.set i x) = cnt l + 1 := by rw [cnt_set _ hi, if_neg h0, if_pos hx]; omega
  refine ⟨⟨hG, h.go, ?_, ?_, h.nxle, h.past, ?_, hM, ?_, h.leno⟩, ?_⟩
  · intro k e e' h1 h2
    rw [ha] at h1
    rcases h1 with ⟨h1, _⟩ | h1
    · obtain ⟨j, h3, h4, _⟩ := h2
      exact hn' j h3 (h4.trans h1.symm)
    · exact h.apart k e e' h1 h2
  · have := h.count; omega
  · intro hne
    have := h.pot hne
    rw [List.length_set]
    split <;> omega
  · rw [List.length_set]; exact h.len
  · intro k e
    rw [ha]
    constructor
    · rintro ((h1 | h1) | h1)
      · exact .inl h1
      · obtain ⟨j, h3, h4, h5⟩ := h1
        exact .inr ⟨fun e => hn j h3 (h4.trans e.symm), .inl ⟨j, h3, h4, h5⟩⟩
      · obtain ⟨j, h3, h4, h5⟩ := h1
        exact .inr ⟨fun e => hn' j h3 (h4.trans e.symm), .inr ⟨j, h3, h4, h5⟩⟩
    · rintro (h1 | ⟨_, h1 | h1⟩)
      · exact .inl (.inl h1)
      · exact .inl (.inr h1)
      · exact .inr h1
/-- The entry of a key that is there, in the new places or in the old ones. -/
theorem Ok.setNew (h : Ok M s l b u o bo uo nx c) {i : Nat} (x : Pl) (hi : (g l i).st = 1) (hx : x.st = 1) (hh : x.h = (g l i).h) (hk : x.k = (g l i).k) :
    Ok M s (l.set i x) b u o bo uo nx c ∧ ∀ k e, (Has (l.set i x) k e ∨ Has o k e) ↔ (x.k = k ∧ x.e = e) ∨ (x.k ≠ k ∧ (Has l k e ∨ Has o k e)) := by
  have hl : i < l.length := g_lt (by rw [hi]; decide)
  have ha := has_new h.gf x hi hx hk
  have hc : cnt (l.set i x) = cnt l := by have := cnt_pos hi; rw [cnt_set _ hl, if_pos hi, if_pos hx]; omega
  refine ⟨⟨h.gf.put i x (by rw [hi]; decide) (.inr ⟨hx, hi, hh, hk⟩), h.go, ?_, by rw [hc]; exact h.count, h.nxle, h.past, by rw [List.length_set]; exact h.pot, h.most, by rw [List.length_set]; exact h.len, h.leno⟩, ?_⟩
  · intro k e e' h1 h2
    rw [ha] at h1
    rcases h1 with ⟨h1, _⟩ | ⟨_, h1⟩
    · exact h.apart k (g l i).e e' ⟨i, hi, h1.symm, rfl⟩ h2
    · exact h.apart k e e' h1 h2
  · intro k e
    rw [ha, ← hk]
    constructor
    · rintro ((⟨h1, h2⟩ | ⟨h1, h2⟩) | h1)
      · exact .inl ⟨h1.symm, h2.symm⟩
      · exact .inr ⟨fun e => h1 e.symm, .inl h2⟩
      · exact .inr ⟨fun ee => h.apart k _ e ⟨i, hi, hk.symm.trans ee, rfl⟩ h1, .inr h1⟩
    · rintro (⟨h1, h2⟩ | ⟨h1, h2 | h2⟩)
      · exact .inl (.inl ⟨h1.symm, h2.symm⟩)
      · exact .inl (.inr ⟨fun e => h1 e.symm, h2⟩)
      · exact .inr h2
theorem Ok.setOld (h : Ok M s l b u o bo uo nx c) {i : Nat} (x : Pl) (hi : (g o i).st = 1) (hx : x.st = 1) (hh : x.h = (g o i).h) (hk : x.k = (g o i).k) :
    Ok M s l b u (o.set i x) bo uo nx c ∧ ∀ k e, (Has l k e ∨ Has (o.set i x) k e) ↔ (x.k = k ∧ x.e = e) ∨ (x.k ≠ k ∧ (Has l k e ∨ Has o k e)) := by
  have hl : i < o.length := g_lt (by rw [hi]; decide)
  have ha := has_new h.go x hi hx hk
  have hc : cnt (o.set i x) = cnt o := by have := cnt_pos hi; rw [cnt_set _ hl, if_pos hi, if_pos hx]; omega
  refine ⟨⟨h.gf, h.go.put i x (by rw [hi]; decide) (.inr ⟨hx, hi, hh, hk⟩), ?_, by rw [hc]; exact h.count, by rw [List.length_set]; exact h.nxle, ?_, ?_, h.most, h.len, by rw [List.length_set]; exact h.leno⟩, ?_⟩
  · intro k e e' h1 h2
    rw [ha] at h2
    rcases h2 with ⟨h2, _⟩ | ⟨_, h2⟩
    · exact h.apart k e (g o i).e h1 ⟨i, hi, h2.symm, rfl⟩
    · exact h.apart k e e' h1 h2
  · intro j hj
    rw [g_set x hl]
    by_cases e : i = j
    · subst e
      exact absurd hi (h.past i hj)
    · rw [if_neg e]; exact h.past j hj
  · intro _
    rw [hc, List.length_set]
    exact h.pot (ne_nil_len (by omega))
  · intro k e
    rw [ha, ← hk]
    constructor
    · rintro (h1 | ⟨h1, h2⟩ | ⟨h1, h2⟩)
      · exact .inr ⟨fun ee => h.apart k e _ h1 ⟨i, hi, hk.symm.trans ee, rfl⟩, .inl h1⟩
      · exact .inl ⟨h1.symm, h2.symm⟩
      · exact .inr ⟨fun e => h1 e.symm, .inr h2⟩
    · rintro (⟨h1, h2⟩ | ⟨h1, h2 | h2⟩)
      · exact .inr (.inl ⟨h1.symm, h2.symm⟩)
      · exact .inl h2
      · exact .inr (.inr ⟨fun e => h1 e.symm, h2⟩)
/-- A key is deleted. -/
theorem Ok.delNew (h : Ok M s l b u o bo uo nx c) {i : Nat} (hi : (g l i).st = 1) :
    0 < c ∧ Ok M s (l.set i Gone) b u o bo uo nx (c - 1) ∧ ∀ k e, (Has (l.set i Gone) k e ∨ Has o k e) ↔ ((g l i).k ≠ k ∧ (Has l k e ∨ Has o k e)) := by
  have hl : i < l.length := g_lt (by rw [hi]; decide)
  have ha := has_del h.gf Gone hi (show Gone.st ≠ 1 by decide)
  have hp := cnt_pos hi
  have hc : cnt (l.set i Gone) = cnt l - 1 := by rw [cnt_set _ hl, if_pos hi, if_neg (show Gone.st ≠ 1 by decide)]; omega
  have h0 := h.count
  refine ⟨by omega, ⟨h.gf.put i Gone (by rw [hi]; decide) (.inl rfl), h.go, ?_, by omega, h.nxle, h.past, by rw [List.length_set]; exact h.pot, by have := h.most; omega, by rw [List.length_set]; exact h.len, h.leno⟩, ?_⟩
  · intro k e e' h1 h2
    rw [ha] at h1
    exact h.apart k e e' h1.1 h2
  · intro k e
    rw [ha]
    constructor
    · rintro (h1 | h1)
      · exact ⟨fun e => h1.2 e.symm, .inl h1.1⟩
      · exact ⟨fun ee => h.apart k _ e ⟨i, hi, ee, rfl⟩ h1, .inr h1⟩
    · rintro ⟨h1, h2 | h2⟩
      · exact .inl ⟨h2, fun e => h1 e.symm⟩
      · exact .inr h2
theorem Ok.delOld (h : Ok M s l b u o bo uo nx c) {i : Nat} (hi : (g o i).st = 1) :
    0 < c ∧ Ok M s l b u (o.set i Gone) bo uo nx (c - 1) ∧ ∀ k e, (Has l k e ∨ Has (o.set i Gone) k e) ↔ ((g o i).k ≠ k ∧ (Has l k e ∨ Has o k e)) := by
  have hl : i < o.length := g_lt (by rw [hi]; decide)
  have ha := has_del h.go Gone hi (show Gone.st ≠ 1 by decide)
  have hp := cnt_pos hi
  have hc : cnt (o.set i Gone) = cnt o - 1 := by rw [cnt_set _ hl, if_pos hi, if_neg (show Gone.st ≠ 1 by decide)]; omega
  have h0 := h.count
  refine ⟨by omega, ⟨h.gf, h.go.put i Gone (by rw [hi]; decide) (.inl rfl), ?_, by omega, by rw [List.length_set]; exact h.nxle, ?_, ?_, by have := h.most; omega, h.len, by rw [List.length_set]; exact h.leno⟩, ?_⟩
  · intro k e e' h1 h2
    rw [ha] at h2
    exact h.apart k e e' h1 h2.1
  · intro j hj
    rw [g_set _ hl]
    by_cases e : i = j
    · rw [if_pos e]; decide
    · rw [if_neg e]; exact h.past j hj
  · intro _
    have := h.pot (ne_nil_len (by omega))
    rw [List.length_set]; omega
  · intro k e
    rw [ha]
    constructor
    · rintro (h1 | h1)
      · exact ⟨fun ee => h.apart k e _ h1 ⟨i, hi, ee, rfl⟩, .inl h1⟩
      · exact ⟨fun e => h1.2 e.symm, .inr h1.1⟩
    · rintro ⟨h1, h2 | h2⟩
      · exact .inl h2
      · exact .inr ⟨h2, fun e => h1 e.symm⟩
/-- How full the new places are. -/
theorem Ok.quarters (h : Ok M s l b u o bo uo nx c) : (l = [] ∧ c = 0) ∨ (8 ≤ l.length ∧ l.length = 2 ^ b ∧ 4 * c ≤ 3 * l.length) := by
  have h0 := h.count
  have h1 := cnt_use l
  have h2 := h.gf.used
  have h3 := h.gf.room
  by_cases ho : o = []
  · subst ho
    rw [cnt_nil] at h0
    rcases h.gf.shape with ⟨rfl, _⟩ | ⟨e1, e2, _⟩
    · exact .inl ⟨rfl, by rw [cnt_nil] at h0; omega⟩
    · have : (2 : Nat) ^ 3 ≤ 2 ^ b := Nat.pow_le_pow_right (by decide) e2
      exact .inr ⟨by omega, e1, by omega⟩
  · have h4 := h.pot ho
    rcases h.gf.shape with ⟨rfl, _⟩ | ⟨e1, e2, _⟩
    · rw [cnt_nil] at h0; rw [List.length_nil] at h4; exact .inl ⟨rfl, by omega⟩
    · have : (2 : Nat) ^ 3 ≤ 2 ^ b := Nat.pow_le_pow_right (by decide) e2
      exact .inr ⟨by omega, e1, by omega⟩
end
end Go.Proofs.Ytcdomlgnfbdeoaa.Tb
