/-
  Plain mathematics of chains: things by a number in ascending order of it, maps that read as such; items of regions in the order of the reference. Nothing of the program.
-/
import Derived.Test.YtlhjofcpcccdpaaBase
import Derived.Lib.SlKeysI
import Derived.Maps.Views
namespace Go.Proofs.Ytlhjofcpcccdpaa.Ch
open Go
/-! Things by a number. -/
section
variable {α : Type}
def Up (l : List (Int × α)) : Prop := l.Pairwise fun p q => p.1 < q.1
def ins (x : Int) (a : α) : List (Int × α) → List (Int × α)
  | [] => [(x, a)]
  | p :: l => if x < p.1 then (x, a) :: p :: l else p :: ins x a l
def cut (x : Int) (l : List (Int × α)) : List (Int × α) := l.filter fun p => decide (p.1 ≠ x)
def pt (x : Int) (a : α) (l : List (Int × α)) : List (Int × α) := ins x a (cut x l)
theorem mem_ins (x : Int) (a : α) (p : Int × α) : ∀ l : List (Int × α), p ∈ ins x a l ↔ p = (x, a) ∨ p ∈ l
  | [] => by simp [ins]
  | q :: l => by
    unfold ins
    split
    · simp
    · rw [List.mem_cons, mem_ins x a p l, List.mem_cons]
      constructor
      · rintro (h | h | h)
        · exact .inr (.inl h)
        · exact .inl h
        · exact .inr (.inr h)
      · rintro (h | h | h)
        · exact .inr (.inl h)
        · exact .inl h
        · exact .inr (.inr h)
theorem mem_cut {x : Int} {p : Int × α} {l : List (Int × α)} : p ∈ cut x l ↔ p ∈ l ∧ p.1 ≠ x := by simp [cut]
theorem mem_pt {x : Int} {a : α} {p : Int × α} {l : List (Int × α)} : p ∈ pt x a l ↔ p = (x, a) ∨ (p ∈ l ∧ p.1 ≠ x) := by unfold pt; rw [mem_ins, mem_cut]
theorem up_cut {x : Int} {l : List (Int × α)} (h : Up l) : Up (cut x l) := h.filter _
theorem up_ins {x : Int} {a : α} : ∀ {l : List (Int × α)}, Up l → (∀ p ∈ l, p.1 ≠ x) → Up (ins x a l)
  | [], _, _ => List.pairwise_singleton _ _
  | q :: l, h, hn => by
    obtain ⟨h1, h2⟩ := List.pairwise_cons.1 h
    unfold ins
    split
    · rename_i hx
      refine List.pairwise_cons.2 ⟨fun p hp => ?_, h⟩
      rcases List.mem_cons.1 hp with rfl | hp
      · exact hx
      · exact Int.lt_trans hx (h1 p hp)
    · rename_i hx
      have hq := hn q List.mem_cons_self
      refine List.pairwise_cons.2 ⟨fun p hp => ?_, up_ins h2 fun p hp => hn p (List.mem_cons_of_mem _ hp)⟩
      rcases (mem_ins x a p l).1 hp with rfl | hp
      · show q.1 < x; omega
      · exact h1 p hp
theorem up_pt {x : Int} {a : α} {l : List (Int × α)} (h : Up l) : Up (pt x a l) := up_ins (up_cut h) fun _ hp => (mem_cut.1 hp).2
theorem up_eq {l l' : List (Int × α)} (h : Up l) (h' : Up l') (hm : ∀ p, p ∈ l ↔ p ∈ l') : l = l' := by
  have nd : ∀ {l : List (Int × α)}, Up l → l.Nodup := fun h => h.imp fun h e => by rw [e] at h; exact Int.lt_irrefl _ h
  exact List.Perm.eq_of_pairwise (le := fun p q : Int × α => p.1 < q.1) (fun a b _ _ h1 h2 => by omega) h h' ((List.perm_ext_iff_of_nodup (nd h) (nd h')).2 hm)
theorem up_one {l : List (Int × α)} (h : Up l) {x : Int} {a b : α} (ha : (x, a) ∈ l) (hb : (x, b) ∈ l) : a = b := by
  obtain ⟨i, hi, ei⟩ := List.getElem_of_mem ha
  obtain ⟨j, hj, ej⟩ := List.getElem_of_mem hb
  rcases Nat.lt_trichotomy i j with h1 | h1 | h1
  · have := List.pairwise_iff_getElem.1 h i j hi hj h1
    rw [ei, ej] at this
    exact absurd this (Int.lt_irrefl x)
  · subst h1
    rw [ei] at ej
    exact (Prod.mk.inj ej).2
  · have := List.pairwise_iff_getElem.1 h j i hj hi h1
    rw [ei, ej] at this
    exact absurd this (Int.lt_irrefl x)
theorem ins_length (x : Int) (a : α) : ∀ l : List (Int × α), (ins x a l).length = l.length + 1
  | [] => rfl
  | p :: l => by
    unfold ins
    split
    · rfl
    · rw [List.length_cons, ins_length x a l, List.length_cons]
theorem cut_le (x : Int) (l : List (Int × α)) : (cut x l).length ≤ l.length := List.length_filter_le _ _
theorem pt_le (x : Int) (a : α) (l : List (Int × α)) : (pt x a l).length ≤ l.length + 1 := by unfold pt; rw [ins_length]; have := cut_le x l; omega
theorem pt_ne (x : Int) (a : α) (l : List (Int × α)) : pt x a l ≠ [] := fun e => by
  have := congrArg List.length e
  unfold pt at this
  rw [ins_length] at this
  cases this
theorem cut_nil {x : Int} {l : List (Int × α)} (h : cut x l = []) : ∀ p ∈ l, p.1 = x := fun p hp => by
  rcases Classical.em (p.1 = x) with h1 | h1
  · exact h1
  · have := mem_cut.2 ⟨hp, h1⟩
    rw [h] at this
    cases this
/-! Maps that read as such lists. -/
section
variable {H : Type} (f : α → DataW H)
def dat (l : List (Int × α)) : DataW H := .map (l.map fun p => (.int .i64 p.1, f p.2))
theorem same_int (a b : Int) : (Lit.int .i64 a).sameKey (.int .i64 b) = decide (a = b) := by simp [Lit.sameKey]
theorem dat_cut (x : Int) : ∀ l : List (Int × α), (l.map fun p => (Lit.int .i64 p.1, f p.2)).filter (fun p => !p.1.sameKey (.int .i64 x)) = (cut x l).map fun p => (Lit.int .i64 p.1, f p.2)
  | [] => rfl
  | p :: l => by
    have ih := dat_cut x l
    unfold cut at ih ⊢
    by_cases h : p.1 = x
    · rw [List.map_cons, List.filter_cons_of_neg (by simp [same_int, h]), List.filter_cons_of_neg (by simp [h]), ih]
    · rw [List.map_cons, List.filter_cons_of_pos (by simp [same_int, h]), List.filter_cons_of_pos (by simp [h]), List.map_cons, ih]
theorem dat_ins (x : Int) (a : α) : ∀ l : List (Int × α), DataW.insert (Lit.int .i64 x, f a) (l.map fun p => (Lit.int .i64 p.1, f p.2)) = (ins x a l).map fun p => (Lit.int .i64 p.1, f p.2)
  | [] => rfl
  | p :: l => by
    have ih := dat_ins x a l
    rw [List.map_cons]
    unfold DataW.insert ins
    have e : (Lit.int .i64 x).before (Lit.int .i64 p.1) = decide (x < p.1) := rfl
    simp only [e, decide_eq_true_eq]
    split
    · rfl
    · rw [List.map_cons, ih]
theorem dat_del (x : Int) (l : List (Int × α)) : (dat f l).del (.int .i64 x) = dat f (cut x l) := by
  show DataW.map _ = DataW.map _
  rw [dat_cut]
theorem dat_put (x : Int) (a : α) (l : List (Int × α)) : (dat f l).put (.int .i64 x) (f a) = dat f (pt x a l) := by
  show DataW.map _ = DataW.map _
  rw [dat_cut, dat_ins]
  rfl
theorem dat_has (x : Int) (l : List (Int × α)) : Maps.has (dat f l) (.int .i64 x) = l.any fun p => decide (p.1 = x) := by
  show (List.any _ _) = _
  rw [List.any_map]
  congr 1
  funext p
  exact same_int _ _
theorem dat_yes {x : Int} {a : α} {l : List (Int × α)} (h : (x, a) ∈ l) : Maps.has (dat f l) (.int .i64 x) = true := by
  rw [dat_has]
  exact List.any_eq_true.2 ⟨_, h, decide_eq_true rfl⟩
theorem dat_not {x : Int} {l : List (Int × α)} (h : ∀ a, (x, a) ∉ l) : Maps.has (dat f l) (.int .i64 x) = false := by
  rw [dat_has]
  refine List.any_eq_false.2 fun p hp e => ?_
  have e2 : p.1 = x := of_decide_eq_true e
  exact h p.2 (by rw [← e2]; exact hp)
theorem dat_at {l : List (Int × α)} (hU : Up l) {x : Int} {a : α} (h : (x, a) ∈ l) (z : DataW H) : (dat f l).atKey (.int .i64 x) z = f a := by
  show (match List.find? _ (l.map fun p => (Lit.int .i64 p.1, f p.2)) with | some p => p.2 | none => z) = _
  rw [List.find?_map]
  cases hf : l.find? ((fun p : Lit × DataW H => p.1.sameKey (.int .i64 x)) ∘ (fun p : Int × α => (Lit.int .i64 p.1, f p.2))) with
  | none =>
    have := List.find?_eq_none.1 hf _ h
    simp [same_int] at this
  | some p =>
    have h1 := List.find?_some hf
    have h2 := List.mem_of_find?_eq_some hf
    simp [same_int] at h1
    obtain ⟨p1, p2⟩ := p
    simp only at h1
    subst h1
    show f p2 = f a
    rw [up_one hU h2 h]
theorem dat_no {l : List (Int × α)} {x : Int} (h : ∀ a, (x, a) ∉ l) (z : DataW H) : (dat f l).atKey (.int .i64 x) z = z := Maps.atKey_of_not_has (dat_not f h) z
theorem dat_size (l : List (Int × α)) : Maps.size (dat f l) = l.length := List.length_map _
theorem dat_keys (l : List (Int × α)) : intKeys (dat f l) = l.map fun p => p.1 := by
  show List.map _ (List.map _ _) = _
  rw [List.map_map]
  rfl
end
end
/-! Items of regions, as the reference has them. -/
abbrev It := Int × ByteArray
structure Ent where
  seq : Int
  off : Int
  k : ByteArray
def Ent0 : Ent := ⟨0, 0, ⟨#[]⟩⟩
def lt (p q : Ent) : Prop := p.seq < q.seq ∨ (p.seq = q.seq ∧ p.off < q.off)
theorem lt_irrefl (p : Ent) : ¬ lt p p := fun h => by unfold lt at h; omega
theorem lt_trans {p q r : Ent} (h : lt p q) (k : lt q r) : lt p r := by unfold lt at *; omega
theorem lt_tri {p q : Ent} (h : ¬ lt p q) (k : ¬ lt q p) : p.seq = q.seq ∧ p.off = q.off := by unfold lt at *; omega
def Srt (L : List Ent) : Prop := L.Pairwise lt
def ge (L : List Ent) (i : Nat) : Ent := L.getD i Ent0
theorem ge_in {L : List Ent} {i : Nat} (h : i < L.length) : ge L i = L[i] := by
  unfold ge; rw [List.getD_eq_getElem?_getD, List.getElem?_eq_getElem h]; rfl
/-- No item, or the item that lies at a place, is at (s, o). -/
def No (L : List Ent) (s o : Int) : Prop := ∀ p ∈ L, ¬ (p.seq = s ∧ p.off = o)
theorem srt_del {L : List Ent} {i : Nat} {s o : Int} (hS : Srt L) (hi : i < L.length) (h1 : (ge L i).seq = s) (h2 : (ge L i).off = o) :
    Srt (L.take i ++ L.drop (i + 1)) ∧ ∀ p, p ∈ L.take i ++ L.drop (i + 1) ↔ p ∈ L ∧ ¬ (p.seq = s ∧ p.off = o) := by
  rw [ge_in hi] at h1 h2
  have h0 := hS
  unfold Srt at h0
  rw [← List.take_append_drop i L, List.pairwise_append, List.drop_eq_getElem_cons hi] at h0
  obtain ⟨a1, a2, a3⟩ := h0
  refine ⟨List.pairwise_append.2 ⟨a1, (List.pairwise_cons.1 a2).2, fun a ha b hb => a3 a ha b (List.mem_cons_of_mem _ hb)⟩, fun p => ?_⟩
  have hm : p ∈ L ↔ p ∈ L.take i ∨ p = L[i] ∨ p ∈ L.drop (i + 1) := by
    have : L = L.take i ++ (L[i] :: L.drop (i + 1)) := by rw [← List.drop_eq_getElem_cons hi, List.take_append_drop]
    constructor
    · intro h; rw [this, List.mem_append, List.mem_cons] at h; exact h
    · intro h; rw [this, List.mem_append, List.mem_cons]; exact h
  rw [hm, List.mem_append]
  constructor
  · rintro (h | h)
    · refine ⟨.inl h, fun e => ?_⟩
      have := a3 _ h _ List.mem_cons_self
      unfold lt at this; omega
    · refine ⟨.inr (.inr h), fun e => ?_⟩
      have := (List.pairwise_cons.1 a2).1 _ h
      unfold lt at this; omega
  · rintro ⟨h | rfl | h, hn⟩
    · exact .inl h
    · exact absurd ⟨h1, h2⟩ hn
    · exact .inr h
/-- The first item that is not before (s, o). -/
def At (L : List Ent) (s o : Int) (i : Nat) : Prop := i ≤ L.length ∧ (∀ j, j < i → (ge L j).seq < s ∨ ((ge L j).seq = s ∧ (ge L j).off < o)) ∧ (i < L.length → ¬ ((ge L i).seq < s ∨ ((ge L i).seq = s ∧ (ge L i).off < o)))
theorem srt_ins {L : List Ent} {i : Nat} {s o : Int} (hS : Srt L) (hA : At L s o i) (hN : No L s o) (k : ByteArray) :
    Srt (L.take i ++ (⟨s, o, k⟩ :: L.drop i)) ∧ ∀ p, p ∈ L.take i ++ (⟨s, o, k⟩ :: L.drop i) ↔ p = ⟨s, o, k⟩ ∨ p ∈ L := by
  have h0 := hS
  unfold Srt at h0
  rw [← List.take_append_drop i L, List.pairwise_append] at h0
  obtain ⟨a1, a2, a3⟩ := h0
  have ht : ∀ p ∈ L.take i, lt p ⟨s, o, k⟩ := by
    intro p hp
    obtain ⟨j, hj, hx⟩ := List.getElem_of_mem hp
    rw [List.length_take] at hj
    rw [List.getElem_take] at hx
    have := hA.2.1 j (by omega)
    rw [ge_in (by omega), hx] at this
    exact this
  have hd : ∀ q ∈ L.drop i, lt ⟨s, o, k⟩ q := by
    intro q hq
    have hil : i < L.length := by
      rcases Nat.lt_or_ge i L.length with h | h
      · exact h
      · rw [List.drop_eq_nil_of_le h] at hq; cases hq
    rw [List.drop_eq_getElem_cons hil] at hq a2
    have hh : lt ⟨s, o, k⟩ L[i] := by
      have h4 := hA.2.2 hil
      rw [ge_in hil] at h4
      have h5 := hN L[i] (List.getElem_mem hil)
      unfold lt
      show s < L[i].seq ∨ (s = L[i].seq ∧ o < L[i].off)
      omega
    rcases List.mem_cons.1 hq with rfl | hq
    · exact hh
    · exact lt_trans hh ((List.pairwise_cons.1 a2).1 q hq)
  refine ⟨List.pairwise_append.2 ⟨a1, List.pairwise_cons.2 ⟨hd, a2⟩, fun a ha b hb => ?_⟩, fun p => ?_⟩
  · rcases List.mem_cons.1 hb with rfl | hb
    · exact ht a ha
    · exact a3 a ha b hb
  · have hm : p ∈ L ↔ p ∈ L.take i ∨ p ∈ L.drop i := by rw [← List.mem_append, List.take_append_drop]
    rw [List.mem_append, List.mem_cons, hm]
    constructor
    · rintro (h | h | h)
      · exact .inr (.inl h)
      · exact .inl h
      · exact .inr (.inr h)
    · rintro (h | h | h)
      · exact .inr (.inl h)
      · exact .inl h
      · exact .inr (.inr h)
/-! The items of one region. -/
def fl (L : List Ent) (s : Int) : List Ent := L.filter fun p => decide (p.seq = s)
theorem fl_next {L : List Ent} {i : Nat} (hi : i < L.length) (s : Int) : fl (L.take (i + 1)) s = fl (L.take i) s ++ (if (ge L i).seq = s then [ge L i] else []) := by
  unfold fl
  rw [List.take_succ_eq_append_getElem hi, List.filter_append, ge_in hi]
  congr 1
  by_cases h : L[i].seq = s
  · rw [if_pos h, List.filter_cons_of_pos (by simp [h])]; rfl
  · rw [if_neg h, List.filter_cons_of_neg (by simp [h])]; rfl
theorem fl_le (L : List Ent) (s : Int) : (fl L s).length ≤ L.length := List.length_filter_le _ _
/-- What the statements ask of a chain beside a list: they hold the same. -/
structure Ag (H : Int → List It) (L : List Ent) : Prop where
  srt : Srt L
  up : ∀ s, Up (H s)
  mem : ∀ s o k, (o, k) ∈ H s ↔ Ent.mk s o k ∈ L
theorem Ag.items {H : Int → List It} {L : List Ent} (h : Ag H L) (s : Int) : (fl L s).map (fun p => (p.off, p.k)) = H s := by
  refine up_eq ?_ (h.up s) fun p => ?_
  · refine List.pairwise_map.2 ?_
    have h1 : (fl L s).Pairwise lt := h.srt.filter _
    refine List.Pairwise.imp_of_mem (fun {a b} ha hb hab => ?_) h1
    have e1 : a.seq = s := by simpa [fl] using (List.mem_filter.1 ha).2
    have e2 : b.seq = s := by simpa [fl] using (List.mem_filter.1 hb).2
    unfold lt at hab
    omega
  · obtain ⟨o, k⟩ := p
    rw [h.mem s o k, List.mem_map]
    constructor
    · rintro ⟨q, hq, e⟩
      obtain ⟨hq1, hq2⟩ := List.mem_filter.1 hq
      have e3 : q.seq = s := by simpa using hq2
      injection e with e1 e2
      obtain ⟨a, b, c⟩ := q
      simp only at e1 e2 e3
      subst e1 e2 e3
      exact hq1
    · intro hq
      exact ⟨_, List.mem_filter.2 ⟨hq, by simp⟩, rfl⟩
/-! The numbers of the regions that have items. -/
def sqs (L : List Ent) : List Int := L.foldl (fun out p => if out.getLast? = some p.seq then out else out ++ [p.seq]) []
theorem sqs_snoc (L : List Ent) (p : Ent) : sqs (L ++ [p]) = if (sqs L).getLast? = some p.seq then sqs L else sqs L ++ [p.seq] := by
  unfold sqs; rw [List.foldl_append]; rfl
theorem sqs_next {L : List Ent} {i : Nat} (hi : i < L.length) : sqs (L.take (i + 1)) = if (sqs (L.take i)).getLast? = some (ge L i).seq then sqs (L.take i) else sqs (L.take i) ++ [(ge L i).seq] := by
  rw [List.take_succ_eq_append_getElem hi, sqs_snoc, ge_in hi]
theorem sqs_le : ∀ (n : Nat) (L : List Ent), L.length = n → (sqs L).length ≤ n
  | 0, L, h => by rw [List.eq_nil_of_length_eq_zero h]; exact Nat.le_refl _
  | n + 1, L, h => by
    have hne : L ≠ [] := fun e => by rw [e] at h; cases h
    rw [← List.dropLast_concat_getLast hne, sqs_snoc]
    have := sqs_le n L.dropLast (by rw [List.length_dropLast, h]; rfl)
    split
    · omega
    · rw [List.length_append]; exact Nat.succ_le_succ this
theorem asc_eq {a b : List Int} (ha : a.Pairwise (· < ·)) (hb : b.Pairwise (· < ·)) (h : ∀ x, x ∈ a ↔ x ∈ b) : a = b := by
  have nd : ∀ {l : List Int}, l.Pairwise (· < ·) → l.Nodup := fun h => h.imp fun h e => by omega
  exact List.Perm.eq_of_pairwise (le := fun p q : Int => p < q) (fun a b _ _ h1 h2 => by omega) ha hb ((List.perm_ext_iff_of_nodup (nd ha) (nd hb)).2 h)
theorem last_of {a : List Int} (ha : a.Pairwise (· < ·)) {x : Int} (hx : x ∈ a) (hm : ∀ y ∈ a, y ≤ x) : a.getLast? = some x := by
  have hne : a ≠ [] := fun e => by rw [e] at hx; cases hx
  rw [List.getLast?_eq_some_getLast hne]
  congr 1
  have h1 := hm _ (List.getLast_mem hne)
  obtain ⟨i, hi, e⟩ := List.getElem_of_mem hx
  rcases Nat.lt_or_ge i (a.length - 1) with h | h
  · have := List.pairwise_iff_getElem.1 ha i (a.length - 1) hi (by omega) h
    rw [List.getLast_eq_getElem] at h1 ⊢
    omega
  · rw [List.getLast_eq_getElem, ← e]
    congr 1
    omega
theorem sqs_ok : ∀ (n : Nat) (L : List Ent), L.length = n → Srt L → (sqs L).Pairwise (· < ·) ∧ ∀ x, x ∈ sqs L ↔ ∃ p ∈ L, p.seq = x
  | 0, L, h, _ => by rw [List.eq_nil_of_length_eq_zero h]; exact ⟨List.Pairwise.nil, fun x => ⟨fun h => (by cases h), fun ⟨p, h, _⟩ => (by cases h)⟩⟩
  | n + 1, L, h, hS => by
    have hne : L ≠ [] := fun e => by rw [e] at h; cases h
    have e0 := List.dropLast_concat_getLast hne
    generalize L.dropLast = K at e0
    generalize L.getLast hne = p at e0
    subst e0
    obtain ⟨h1, _, h3⟩ := List.pairwise_append.1 hS
    obtain ⟨i1, i2⟩ := sqs_ok n K (by rw [List.length_append] at h; simpa using h) h1
    have hle : ∀ x ∈ sqs K, x ≤ p.seq := fun x hx => by
      obtain ⟨q, hq, rfl⟩ := (i2 x).1 hx
      have := h3 q hq p List.mem_cons_self
      unfold lt at this
      omega
    rw [sqs_snoc]
    split
    · rename_i hl
      refine ⟨i1, fun x => ?_⟩
      rw [i2 x]
      constructor
      · rintro ⟨q, hq, e⟩
        exact ⟨q, List.mem_append_left _ hq, e⟩
      · rintro ⟨q, hq, rfl⟩
        rcases List.mem_append.1 hq with hq | hq
        · exact ⟨q, hq, rfl⟩
        · have : q = p := by simpa using hq
          subst this
          exact (i2 _).1 (List.mem_of_getLast? hl)
    · rename_i hl
      have hn : p.seq ∉ sqs K := fun hm => hl (last_of i1 hm hle)
      refine ⟨List.pairwise_append.2 ⟨i1, List.pairwise_singleton _ _, fun a ha b hb => ?_⟩, fun x => ?_⟩
      · have : b = p.seq := by simpa using hb
        subst this
        have h5 := hle a ha
        rcases Int.lt_or_eq_of_le h5 with h6 | h6
        · exact h6
        · exact absurd (h6 ▸ ha) hn
      · rw [List.mem_append, i2 x]
        constructor
        · rintro (⟨q, hq, e⟩ | hx)
          · exact ⟨q, List.mem_append_left _ hq, e⟩
          · exact ⟨p, List.mem_append_right _ List.mem_cons_self, (List.mem_singleton.1 hx).symm⟩
        · rintro ⟨q, hq, rfl⟩
          rcases List.mem_append.1 hq with hq | hq
          · exact .inl ⟨q, hq, rfl⟩
          · exact .inr (by have : q = p := by simpa using hq
                           rw [this]; exact List.mem_cons_self)
theorem Ag.seqs {H : Int → List It} {L : List Ent} (h : Ag H L) {ss : List Int} (ha : ss.Pairwise (· < ·)) (hm : ∀ x, x ∈ ss ↔ H x ≠ []) : ss = sqs L := by
  obtain ⟨h1, h2⟩ := sqs_ok _ L rfl h.srt
  refine asc_eq ha h1 fun x => ?_
  rw [hm x, h2 x]
  constructor
  · intro hne
    obtain ⟨⟨o, k⟩, hp⟩ := List.exists_mem_of_ne_nil _ hne
    exact ⟨_, (h.mem x o k).1 hp, rfl⟩
  · rintro ⟨⟨s, o, k⟩, hp, rfl⟩ e
    have := (h.mem s o k).2 hp
    rw [e] at this
    cases this
/-! What the calls make of what a chain holds. -/
def add (H : Int → List It) (s o : Int) (k : ByteArray) (t : Int) : List It := if t = s then pt o k (H s) else H t
def rem (H : Int → List It) (s o : Int) (t : Int) : List It := if t = s then cut o (H s) else H t
def drop (H : Int → List It) (s : Int) (t : Int) : List It := if t = s then [] else H t
theorem Ag.new : Ag (fun _ => []) [] := ⟨List.Pairwise.nil, fun _ => List.Pairwise.nil, fun _ _ _ => ⟨fun h => (by cases h), fun h => (by cases h)⟩⟩
theorem add_up {H : Int → List It} (h : ∀ s, Up (H s)) (s o : Int) (k : ByteArray) (t : Int) : Up (add H s o k t) := by
  unfold add; split
  · exact up_pt (h s)
  · exact h t
theorem rem_up {H : Int → List It} (h : ∀ s, Up (H s)) (s o : Int) (t : Int) : Up (rem H s o t) := by
  unfold rem; split
  · exact up_cut (h s)
  · exact h t
theorem drop_up {H : Int → List It} (h : ∀ s, Up (H s)) (s : Int) (t : Int) : Up (drop H s t) := by
  unfold drop; split
  · exact List.Pairwise.nil
  · exact h t
theorem Ag.add {H : Int → List It} {L L' : List Ent} (h : Ag H L) {s o : Int} {k : ByteArray} (hS : Srt L') (hm : ∀ p, p ∈ L' ↔ p = ⟨s, o, k⟩ ∨ (p ∈ L ∧ ¬ (p.seq = s ∧ p.off = o))) : Ag (Ch.add H s o k) L' := by
  refine ⟨hS, add_up h.up s o k, fun s' o' k' => ?_⟩
  rw [hm, ← h.mem]
  unfold Ch.add
  split
  · rename_i e
    subst e
    rw [mem_pt]
    constructor
    · rintro (e | ⟨h1, h2⟩)
      · injection e with e1 e2; subst e1 e2; exact .inl rfl
      · exact .inr ⟨h1, fun e => h2 e.2⟩
    · rintro (e | ⟨h1, h2⟩)
      · injection e with _ e1 e2; subst e1 e2; exact .inl rfl
      · exact .inr ⟨h1, fun e => h2 ⟨rfl, e⟩⟩
  · rename_i hne
    constructor
    · intro h1; exact .inr ⟨h1, fun e => hne e.1⟩
    · rintro (e | ⟨h1, _⟩)
      · injection e with e1; exact absurd e1 hne
      · exact h1
theorem Ag.rem {H : Int → List It} {L L' : List Ent} (h : Ag H L) {s o : Int} (hS : Srt L') (hm : ∀ p, p ∈ L' ↔ p ∈ L ∧ ¬ (p.seq = s ∧ p.off = o)) : Ag (Ch.rem H s o) L' := by
  refine ⟨hS, rem_up h.up s o, fun s' o' k' => ?_⟩
  rw [hm, ← h.mem]
  unfold Ch.rem
  split
  · rename_i e
    subst e
    rw [mem_cut]
    exact and_congr Iff.rfl ⟨fun h e => h e.2, fun h e => h ⟨rfl, e⟩⟩
  · rename_i hne
    exact ⟨fun h1 => ⟨h1, fun e => hne e.1⟩, fun h1 => h1.1⟩
theorem Ag.drop {H : Int → List It} {L L' : List Ent} (h : Ag H L) {s : Int} (hS : Srt L') (hm : ∀ p, p ∈ L' ↔ p ∈ L ∧ p.seq ≠ s) : Ag (Ch.drop H s) L' := by
  refine ⟨hS, drop_up h.up s, fun s' o' k' => ?_⟩
  rw [hm, ← h.mem]
  unfold Ch.drop
  split
  · rename_i e
    exact ⟨fun h => (by cases h), fun h => absurd e h.2⟩
  · rename_i hne
    exact ⟨fun h1 => ⟨h1, hne⟩, fun h1 => h1.1⟩
end Go.Proofs.Ytlhjofcpcccdpaa.Ch
