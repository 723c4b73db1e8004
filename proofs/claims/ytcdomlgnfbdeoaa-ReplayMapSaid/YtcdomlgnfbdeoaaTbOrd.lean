/-
  Plain mathematics of the index: the order of keys, lists of pairs in that order, the items of hash places. Nothing of the program.
-/
import Derived.Test.YtcdomlgnfbdeoaaTbMath
import Derived.Test.YtcdomlgnfbdeoaaStrOrd
namespace Go.Proofs.Ytcdomlgnfbdeoaa.Tb
open Go
/-! Lists of pairs in the order of their keys. -/
abbrev Pr := ByteArray × En
def Pr0 : Pr := (⟨#[]⟩, En0)
def gp (L : List Pr) (i : Nat) : Pr := L.getD i Pr0
theorem gp_in {L : List Pr} {i : Nat} (h : i < L.length) : gp L i = L[i] := by
  unfold gp; rw [List.getD_eq_getElem?_getD, List.getElem?_eq_getElem h]; rfl
def Srt (L : List Pr) : Prop := L.Pairwise fun p q => kl p.1 q.1 = true
/-- The first pair that is not before a key. -/
def At (L : List Pr) (k : ByteArray) (i : Nat) : Prop := i ≤ L.length ∧ (∀ j, j < i → kl (gp L j).1 k = true) ∧ (i < L.length → kl (gp L i).1 k = false)
theorem At.found {L : List Pr} {k : ByteArray} {i : Nat} (h : At L k i) (hS : Srt L) (e : En) (hm : (k, e) ∈ L) : i < L.length ∧ gp L i = (k, e) := by
  obtain ⟨j, hj, hk⟩ := List.getElem_of_mem hm
  have hi : i ≤ j := Nat.le_of_not_lt fun h1 => by
    have := h.2.1 j h1
    rw [gp_in hj, hk, kl_irrefl] at this
    cases this
  have hil : i < L.length := by omega
  rcases Nat.lt_or_eq_of_le hi with h1 | h1
  · have h2 := h.2.2 hil
    have h3 := List.pairwise_iff_getElem.1 hS i j hil hj h1
    rw [hk] at h3
    rw [gp_in hil, h3] at h2
    cases h2
  · subst h1
    exact ⟨hil, by rw [gp_in hj, hk]⟩
theorem At.mem {L : List Pr} {k : ByteArray} {i : Nat} (hi : i < L.length) (hk : (gp L i).1 = k) : (k, (gp L i).2) ∈ L := by
  rw [← hk, gp_in hi]; exact List.getElem_mem hi
/-- An entry is put in the place of another one. -/
theorem srt_set {L : List Pr} {k : ByteArray} {i : Nat} (hS : Srt L) (hi : i < L.length) (hk : (gp L i).1 = k) (e : En) :
    Srt (L.set i (k, e)) ∧ ∀ k' e', (k', e') ∈ L.set i (k, e) ↔ (k' = k ∧ e' = e) ∨ (k' ≠ k ∧ (k', e') ∈ L) := by
  have keys : ∀ j (hj : j < L.length), ((L.set i (k, e))[j]'(by rw [List.length_set]; exact hj)).1 = (L[j]).1 := by
    intro j hj
    rw [List.getElem_set]
    by_cases h : i = j
    · subst h; rw [if_pos rfl, ← hk, gp_in hi]
    · rw [if_neg h]
  have hne : ∀ j (hj : j < L.length), j ≠ i → (L[j]).1 ≠ k := by
    intro j hj hji hjk
    rw [gp_in hi] at hk
    rcases Nat.lt_or_gt_of_ne hji with h | h
    · have := List.pairwise_iff_getElem.1 hS j i hj hi h
      rw [hjk, hk, kl_irrefl] at this; cases this
    · have := List.pairwise_iff_getElem.1 hS i j hi hj h
      rw [hjk, hk, kl_irrefl] at this; cases this
  refine ⟨List.pairwise_iff_getElem.2 fun a b ha hb hab => ?_, fun k' e' => ⟨fun h => ?_, fun h => ?_⟩⟩
  · rw [List.length_set] at ha hb
    rw [keys a ha, keys b hb]
    exact List.pairwise_iff_getElem.1 hS a b ha hb hab
  · obtain ⟨j, hj, hx⟩ := List.getElem_of_mem h
    rw [List.length_set] at hj
    rw [List.getElem_set] at hx
    by_cases hji : i = j
    · rw [if_pos hji] at hx
      injection hx with h1 h2
      exact .inl ⟨h1.symm, h2.symm⟩
    · rw [if_neg hji] at hx
      refine .inr ⟨fun ek => hne j hj (fun e => hji e.symm) (by rw [hx]; exact ek), ?_⟩
      rw [← hx]; exact List.getElem_mem hj
  · rcases h with ⟨rfl, rfl⟩ | ⟨hn, h⟩
    · exact List.mem_iff_getElem.2 ⟨i, by rw [List.length_set]; exact hi, by rw [List.getElem_set_self]⟩
    · obtain ⟨j, hj, hx⟩ := List.getElem_of_mem h
      refine List.mem_iff_getElem.2 ⟨j, by rw [List.length_set]; exact hj, ?_⟩
      rw [List.getElem_set, if_neg (fun e => ?_)]
      · exact hx
      · subst e
        rw [gp_in hi, hx] at hk
        exact hn hk
theorem take_lt {L : List Pr} {k : ByteArray} {i : Nat} (h : At L k i) : ∀ p ∈ L.take i, kl p.1 k = true := by
  intro p hp
  obtain ⟨j, hj, hx⟩ := List.getElem_of_mem hp
  rw [List.length_take] at hj
  rw [List.getElem_take] at hx
  have := h.2.1 j (by omega)
  rw [gp_in (by omega), hx] at this
  exact this
/-- A pair is put in between. -/
theorem srt_ins {L : List Pr} {k : ByteArray} {i : Nat} (hS : Srt L) (hA : At L k i) (hk : ¬ (i < L.length ∧ (gp L i).1 = k)) (e : En) :
    Srt (L.take i ++ ((k, e) :: L.drop i)) ∧ ∀ k' e', (k', e') ∈ L.take i ++ ((k, e) :: L.drop i) ↔ (k' = k ∧ e' = e) ∨ (k' ≠ k ∧ (k', e') ∈ L) := by
  have h0 := hS
  unfold Srt at h0
  rw [← List.take_append_drop i L, List.pairwise_append] at h0
  obtain ⟨h1, h2, h3⟩ := h0
  have hd : ∀ q ∈ L.drop i, kl k q.1 = true := by
    intro q hq
    have hil : i < L.length := by
      rcases Nat.lt_or_ge i L.length with h | h
      · exact h
      · rw [List.drop_eq_nil_of_le h] at hq; cases hq
    rw [List.drop_eq_getElem_cons hil] at hq h2
    have hh : kl k L[i].1 = true := by
      cases hb : kl k L[i].1 with
      | true => rfl
      | false =>
        have h4 := hA.2.2 hil
        rw [gp_in hil] at h4
        exact absurd ⟨hil, by rw [gp_in hil]; exact kl_tri h4 hb⟩ hk
    rcases List.mem_cons.1 hq with rfl | hq
    · exact hh
    · exact kl_trans hh ((List.pairwise_cons.1 h2).1 q hq)
  refine ⟨List.pairwise_append.2 ⟨h1, List.pairwise_cons.2 ⟨hd, h2⟩, fun a ha b hb => ?_⟩, fun k' e' => ?_⟩
  · rcases List.mem_cons.1 hb with rfl | hb
    · exact take_lt hA a ha
    · exact h3 a ha b hb
  · have hn : ∀ e', (k, e') ∉ L := fun e' hm => hk ⟨(hA.found hS e' hm).1, by rw [(hA.found hS e' hm).2]⟩
    have hm : (k', e') ∈ L ↔ (k', e') ∈ L.take i ∨ (k', e') ∈ L.drop i := by rw [← List.mem_append, List.take_append_drop]
    rw [List.mem_append, List.mem_cons, hm]
    constructor
    · rintro (h | h | h)
      · exact .inr ⟨fun e => hn e' (by rw [← e]; exact hm.2 (.inl h)), .inl h⟩
      · injection h with h5 h6
        exact .inl ⟨h5, h6⟩
      · exact .inr ⟨fun e => hn e' (by rw [← e]; exact hm.2 (.inr h)), .inr h⟩
    · rintro (⟨rfl, rfl⟩ | ⟨_, h | h⟩)
      · exact .inr (.inl rfl)
      · exact .inl h
      · exact .inr (.inr h)
/-- A pair is taken out. -/
theorem srt_del {L : List Pr} {k : ByteArray} {i : Nat} (hS : Srt L) (hi : i < L.length) (hk : (gp L i).1 = k) :
    Srt (L.take i ++ L.drop (i + 1)) ∧ ∀ k' e', (k', e') ∈ L.take i ++ L.drop (i + 1) ↔ (k ≠ k' ∧ (k', e') ∈ L) := by
  have h0 := hS
  unfold Srt at h0
  rw [← List.take_append_drop i L, List.pairwise_append, List.drop_eq_getElem_cons hi] at h0
  obtain ⟨h1, h2, h3⟩ := h0
  rw [gp_in hi] at hk
  refine ⟨List.pairwise_append.2 ⟨h1, (List.pairwise_cons.1 h2).2, fun a ha b hb => h3 a ha b (List.mem_cons_of_mem _ hb)⟩, fun k' e' => ?_⟩
  have hm : (k', e') ∈ L ↔ (k', e') ∈ L.take i ∨ (k', e') = L[i] ∨ (k', e') ∈ L.drop (i + 1) := by
    have : L = L.take i ++ (L[i] :: L.drop (i + 1)) := by rw [← List.drop_eq_getElem_cons hi, List.take_append_drop]
    constructor
    · intro h; rw [this, List.mem_append, List.mem_cons] at h; exact h
    · intro h; rw [this, List.mem_append, List.mem_cons]; exact h
  rw [hm, List.mem_append]
  constructor
  · rintro (h | h)
    · refine ⟨fun e => ?_, .inl h⟩
      have := h3 _ h _ (List.mem_cons_self)
      rw [hk, e, kl_irrefl] at this; cases this
    · refine ⟨fun e => ?_, .inr (.inr h)⟩
      have := (List.pairwise_cons.1 h2).1 _ h
      rw [hk, e, kl_irrefl] at this; cases this
  · rintro ⟨hn, h | h | h⟩
    · exact .inl h
    · exact absurd (by rw [← hk, ← h]) hn
    · exact .inr h
/-! The items of places. -/
def its (l : List Pl) : List Pr := l.filterMap fun p => if p.st = 1 then some (p.k, p.e) else none
theorem its_length (l : List Pl) : (its l).length = cnt l := by
  unfold its cnt
  rw [List.length_filterMap_eq_countP]
  congr 1
  funext p
  by_cases h : p.st = 1
  · rw [if_pos h, decide_eq_true h]; rfl
  · rw [if_neg h, decide_eq_false h]; rfl
theorem its_mem (l : List Pl) (k : ByteArray) (e : En) : (k, e) ∈ its l ↔ Has l k e := by
  unfold its
  rw [List.mem_filterMap]
  constructor
  · rintro ⟨p, hp, h⟩
    obtain ⟨i, hi, rfl⟩ := List.getElem_of_mem hp
    by_cases h1 : l[i].st = 1
    · rw [if_pos h1] at h
      injection h with h
      injection h with h2 h3
      exact ⟨i, by rw [g_in hi]; exact ⟨h1, h2, h3⟩⟩
    · rw [if_neg h1] at h; cases h
  · rintro ⟨i, h1, h2, h3⟩
    have hi : i < l.length := g_lt (by rw [h1]; decide)
    rw [g_in hi] at h1 h2 h3
    exact ⟨l[i], List.getElem_mem hi, by rw [if_pos h1, h2, h3]⟩
theorem its_next (l : List Pl) (i : Nat) (hi : i < l.length) : its (l.take (i + 1)) = its (l.take i) ++ (if (g l i).st = 1 then [((g l i).k, (g l i).e)] else []) := by
  unfold its
  rw [List.take_succ_eq_append_getElem hi, List.filterMap_append, g_in hi]
  congr 1
  by_cases h : l[i].st = 1
  · rw [if_pos h, List.filterMap_cons, if_pos h]; rfl
  · rw [if_neg h, List.filterMap_cons, if_neg h]; rfl
def Dif (L : List Pr) : Prop := L.Pairwise fun p q => p.1 ≠ q.1
theorem its_dif : ∀ l : List Pl, (∀ i j, (g l i).st = 1 → (g l j).st = 1 → (g l i).k = (g l j).k → i = j) → Dif (its l)
  | [], _ => List.Pairwise.nil
  | p :: l, h => by
    have ih := its_dif l fun i j hi hj hk => by
      have := h (i + 1) (j + 1) hi hj hk
      omega
    unfold its
    rw [List.filterMap_cons]
    by_cases hp : p.st = 1
    · rw [if_pos hp]
      refine List.pairwise_cons.2 ⟨fun q hq e => ?_, ih⟩
      obtain ⟨j, h1, h2, _⟩ := (its_mem l q.1 q.2).1 hq
      have := h 0 (j + 1) hp h1 (show p.k = (g l j).k by rw [h2]; exact e)
      omega
    · rw [if_neg hp]; exact ih
theorem dif_nodup {L : List Pr} (h : Dif L) : L.Nodup := h.imp fun h e => h (by rw [e])
theorem srt_dif {L : List Pr} (h : Srt L) : Dif L := h.imp fun {a b} h e => by rw [e, kl_irrefl] at h; cases h
/-- All items of a table. -/
theorem Ok.dif {M s : Nat} {l : List Pl} {b u : Nat} {o : List Pl} {bo uo nx c : Nat} (h : Ok M s l b u o bo uo nx c) : Dif (its l ++ its o) ∧ (its l ++ its o).length = c ∧ ∀ k e, (k, e) ∈ its l ++ its o ↔ (Has l k e ∨ Has o k e) := by
  refine ⟨List.pairwise_append.2 ⟨its_dif l h.gf.uniq, its_dif o h.go.uniq, fun p hp q hq e => ?_⟩, ?_, fun k e => by rw [List.mem_append, its_mem, its_mem]⟩
  · have h1 := (its_mem l p.1 p.2).1 hp
    have h2 := (its_mem o q.1 q.2).1 hq
    rw [← e] at h2
    exact h.apart _ _ _ h1 h2
  · rw [List.length_append, its_length, its_length]; exact h.count.symm
theorem perm_of {L K : List Pr} (hL : Dif L) (hK : Dif K) (h : ∀ k e, (k, e) ∈ L ↔ (k, e) ∈ K) : L.Perm K :=
  (List.perm_ext_iff_of_nodup (dif_nodup hL) (dif_nodup hK)).2 fun p => h p.1 p.2
/-- What is sorted, and has no key twice, is in strict order. -/
theorem srt_of {L : List Pr} (hd : Dif L) (h : ∀ i j (hi : i < L.length) (hj : j < L.length), i < j → kl L[j].1 L[i].1 = false) : Srt L :=
  List.pairwise_iff_getElem.2 fun i j hi hj hij => by
    cases hb : kl L[i].1 L[j].1 with
    | true => rfl
    | false => exact absurd (kl_tri hb (h i j hi hj hij)) (List.pairwise_iff_getElem.1 hd i j hi hj hij)
theorem srt_eq {L K : List Pr} (hL : Srt L) (hK : Srt K) (hp : L.Perm K) : L = K :=
  List.Perm.eq_of_pairwise (le := fun p q : Pr => kl p.1 q.1 = true) (fun a b _ _ h1 h2 => by
    have := kl_trans h1 h2
    rw [kl_irrefl] at this; cases this) hL hK hp
theorem dif_perm {L K : List Pr} (h : Dif L) (hp : L.Perm K) : Dif K := (hp.pairwise_iff (fun h e => h e.symm)).1 h
end Go.Proofs.Ytcdomlgnfbdeoaa.Tb
