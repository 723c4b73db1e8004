/-
  Plain mathematics of the choice of slots: the order of regions, the tail, what is foreign, what has to go. Nothing of the program.
-/
import Derived.Test.YtmkilbogdenljaaGmMath
namespace Go.Proofs.Ytmkilbogdenljaa
namespace Sl
open Sb Gm
/-- A region put where it belongs, ahead of those of the same number. -/
def ins (r : R) : List R → List R
  | [] => [r]
  | x :: t => if r.seq ≤ x.seq then r :: x :: t else x :: ins r t
/-- From the oldest to the youngest. -/
def order : List R → List R
  | [] => []
  | r :: t => ins r (order t)
def Srt (l : List R) : Prop := l.Pairwise fun a b => a.seq ≤ b.seq
theorem ins_perm (r : R) : ∀ l, (ins r l).Perm (r :: l)
  | [] => .refl _
  | x :: t => by
    unfold ins
    split
    · exact .refl _
    · exact ((ins_perm r t).cons x).trans (.swap r x t)
theorem order_perm : ∀ l, (order l).Perm l
  | [] => .refl _
  | r :: t => (ins_perm r _).trans ((order_perm t).cons r)
theorem order_length (l : List R) : (order l).length = l.length := (order_perm l).length_eq
theorem mem_ins {r x : R} {l : List R} : x ∈ ins r l ↔ x = r ∨ x ∈ l := by rw [(ins_perm r l).mem_iff, List.mem_cons]
theorem mem_order {x : R} {l : List R} : x ∈ order l ↔ x ∈ l := (order_perm l).mem_iff
theorem ins_srt (r : R) : ∀ {l : List R}, Srt l → Srt (ins r l)
  | [], _ => List.pairwise_singleton _ _
  | x :: t, h => by
    have h1 := List.pairwise_cons.1 h
    unfold ins
    split
    · next hr => exact List.pairwise_cons.2 ⟨fun y hy => by
        rcases List.mem_cons.1 hy with rfl | hy
        · exact hr
        · exact Int.le_trans hr (h1.1 y hy), h⟩
    · next hr =>
      refine List.pairwise_cons.2 ⟨fun y hy => ?_, ins_srt r h1.2⟩
      rcases mem_ins.1 hy with rfl | hy
      · omega
      · exact h1.1 y hy
theorem order_srt : ∀ l, Srt (order l)
  | [] => List.Pairwise.nil
  | r :: t => ins_srt r (order_srt t)
/-- The regions of one number keep their order. -/
theorem ins_same (r : R) (s : Int) : ∀ {l : List R}, Srt l → (ins r l).filter (fun x => decide (x.seq = s)) = (r :: l).filter (fun x => decide (x.seq = s))
  | [], _ => rfl
  | x :: t, h => by
    have h1 := List.pairwise_cons.1 h
    unfold ins
    split
    · rfl
    · next hr =>
      rw [List.filter_cons, ins_same r s h1.2, List.filter_cons, List.filter_cons, List.filter_cons]
      by_cases e : x.seq = s
      · have : ¬ r.seq = s := by omega
        simp [e, this]
      · simp [e]
theorem order_same (s : Int) : ∀ l, (order l).filter (fun x => decide (x.seq = s)) = l.filter (fun x => decide (x.seq = s))
  | [] => rfl
  | r :: t => by
    show (ins r (order t)).filter _ = _
    rw [ins_same r s (order_srt t), List.filter_cons, List.filter_cons, order_same s t]
/-- There is one sorted list that keeps the order of those of one number. -/
theorem srt_one : ∀ {A B : List R}, Srt A → Srt B → (∀ s : Int, A.filter (fun x => decide (x.seq = s)) = B.filter (fun x => decide (x.seq = s))) → A = B
  | [], [], _, _, _ => rfl
  | [], b :: B, _, _, h => by
    have := h b.seq
    rw [List.filter_nil, List.filter_cons, if_pos (decide_eq_true rfl)] at this
    cases this
  | a :: A, [], _, _, h => by
    have := h a.seq
    rw [List.filter_nil, List.filter_cons, if_pos (decide_eq_true rfl)] at this
    cases this
  | a :: A, b :: B, hA, hB, h => by
    have hA1 := List.pairwise_cons.1 hA
    have hB1 := List.pairwise_cons.1 hB
    have e1 : b ∈ (a :: A) := by
      have : b ∈ (a :: A).filter (fun x => decide (x.seq = b.seq)) := by
        rw [h b.seq]
        exact List.mem_filter.2 ⟨List.mem_cons_self .., decide_eq_true rfl⟩
      exact (List.mem_filter.1 this).1
    have e2 : a ∈ (b :: B) := by
      have : a ∈ (b :: B).filter (fun x => decide (x.seq = a.seq)) := by
        rw [← h a.seq]
        exact List.mem_filter.2 ⟨List.mem_cons_self .., decide_eq_true rfl⟩
      exact (List.mem_filter.1 this).1
    have l1 : a.seq ≤ b.seq := by
      rcases List.mem_cons.1 e1 with e | e
      · rw [e]; exact Int.le_refl _
      · exact hA1.1 b e
    have l2 : b.seq ≤ a.seq := by
      rcases List.mem_cons.1 e2 with e | e
      · rw [e]; exact Int.le_refl _
      · exact hB1.1 a e
    have es : b.seq = a.seq := by omega
    have h0 := h a.seq
    rw [List.filter_cons, List.filter_cons, if_pos (decide_eq_true rfl), if_pos (decide_eq_true es)] at h0
    injection h0 with hab htl
    subst hab
    have : A = B := srt_one hA1.2 hB1.2 fun s => by
      have hs := h s
      rw [List.filter_cons, List.filter_cons] at hs
      by_cases e : a.seq = s
      · rw [if_pos (decide_eq_true e), if_pos (decide_eq_true e)] at hs
        injection hs
      · rw [if_neg (fun h => e (of_decide_eq_true h)), if_neg (fun h => e (of_decide_eq_true h))] at hs
        exact hs
    rw [this]
theorem order_one {A l : List R} (h : Srt A) (k : ∀ s : Int, A.filter (fun x => decide (x.seq = s)) = l.filter (fun x => decide (x.seq = s))) : A = order l :=
  srt_one h (order_srt l) fun s => (k s).trans (order_same s l).symm
theorem order_of_srt {l : List R} (h : Srt l) : order l = l := (order_one h fun _ => rfl).symm
theorem order_filter (p : R → Bool) (l : List R) : order (l.filter p) = (order l).filter p := by
  refine (order_one (List.Pairwise.filter p (order_srt l)) fun s => ?_).symm
  rw [List.filter_filter, List.filter_filter]
  have e : ∀ m : List R, m.filter (fun a => (decide (a.seq = s) && p a)) = (m.filter fun a => decide (a.seq = s)).filter p := fun m => by
    rw [List.filter_filter]
    exact List.filter_congr fun a _ => Bool.and_comm _ _
  rw [e, e, order_same]
/-- The oldest one is picked first. -/
theorem ins_first {r : R} {l : List R} (h : ∀ x ∈ l, r.seq ≤ x.seq) : ins r l = r :: l := by
  cases l with
  | nil => rfl
  | cons x t => unfold ins; rw [if_pos (h x (List.mem_cons_self ..))]
theorem order_pick (r : R) : ∀ (A B : List R), (∀ a ∈ A, r.seq < a.seq) → (∀ b ∈ B, r.seq ≤ b.seq) → order (A ++ r :: B) = r :: order (A ++ B)
  | [], B, _, hB => ins_first fun x hx => hB x (mem_order.1 hx)
  | a :: A, B, hA, hB => by
    show ins a (order (A ++ r :: B)) = _
    rw [order_pick r A B (fun x hx => hA x (List.mem_cons_of_mem _ hx)) hB]
    have := hA a (List.mem_cons_self ..)
    show ins a (r :: order (A ++ B)) = r :: ins a (order (A ++ B))
    rw [ins, if_neg (by omega)]
/-- What is left of a list: what was not used. -/
def left : List Bool → List R → List R
  | b :: u, r :: l => if b then left u l else r :: left u l
  | _, _ => []
theorem left_none : ∀ l : List R, left (List.replicate l.length false) l = l
  | [] => rfl
  | r :: l => by
    show left (false :: List.replicate l.length false) (r :: l) = _
    rw [left, if_neg (by decide), left_none l]
theorem left_set : ∀ {u : List Bool} {l : List R} {k : Nat}, u.length = l.length → k < l.length → u.getD k true = false →
    ∃ A B, left u l = A ++ l.getD k R0 :: B ∧ left (u.set k true) l = A ++ B ∧ (∀ a ∈ A, ∃ j, j < k ∧ u.getD j true = false ∧ a = l.getD j R0) ∧ (∀ b ∈ B, ∃ j, k < j ∧ j < l.length ∧ u.getD j true = false ∧ b = l.getD j R0)
  | [], l, k, hl, hk, _ => by rw [← hl] at hk; cases hk
  | b :: u, [], k, _, hk, _ => by cases hk
  | b :: u, r :: l, 0, hl, _, hu => by
    have hb : b = false := hu
    subst hb
    refine ⟨[], left u l, ?_, ?_, (fun _ h => by cases h), (fun x hx => ?_)⟩
    · rw [left, if_neg (by decide)]; rfl
    · show left (true :: u) (r :: l) = _
      rw [left, if_pos rfl]; rfl
    · have hm : ∀ {u : List Bool} {l : List R}, x ∈ left u l → ∃ j, j < l.length ∧ u.getD j true = false ∧ x = l.getD j R0 := by
        intro u
        induction u with
        | nil => intro l h; cases l <;> cases h
        | cons c u ih =>
          intro l h
          cases l with
          | nil => cases h
          | cons y l =>
            rw [left] at h
            by_cases hc : c = true
            · rw [if_pos hc] at h
              obtain ⟨j, h1, h2, h3⟩ := ih h
              exact ⟨j + 1, by simp; omega, by simpa using h2, by simpa using h3⟩
            · rw [if_neg hc] at h
              rcases List.mem_cons.1 h with rfl | h
              · exact ⟨0, by simp, by simpa using hc, rfl⟩
              · obtain ⟨j, h1, h2, h3⟩ := ih h
                exact ⟨j + 1, by simp; omega, by simpa using h2, by simpa using h3⟩
      obtain ⟨j, h1, h2, h3⟩ := hm hx
      exact ⟨j + 1, by omega, by simp; omega, by simpa using h2, by simpa using h3⟩
  | b :: u, r :: l, k + 1, hl, hk, hu => by
    obtain ⟨A, B, h1, h2, h3, h4⟩ := left_set (u := u) (l := l) (k := k) (by simpa using hl) (by simpa using hk) (by simpa using hu)
    have e4 : ∀ x ∈ B, ∃ j, k + 1 < j ∧ j < (r :: l).length ∧ (b :: u).getD j true = false ∧ x = (r :: l).getD j R0 := fun x hx => by
      obtain ⟨j, g1, g2, g3, g4⟩ := h4 x hx
      exact ⟨j + 1, by omega, by simp; omega, by simpa using g3, by simpa using g4⟩
    by_cases hb : b = true
    · subst hb
      refine ⟨A, B, ?_, ?_, fun x hx => ?_, e4⟩
      · rw [left, if_pos rfl, h1]; rfl
      · show left (true :: u.set k true) (r :: l) = _
        rw [left, if_pos rfl, h2]
      · obtain ⟨j, g1, g2, g3⟩ := h3 x hx
        exact ⟨j + 1, by omega, by simpa using g2, by simpa using g3⟩
    · refine ⟨r :: A, B, ?_, ?_, fun x hx => ?_, e4⟩
      · rw [left, if_neg hb, h1]; rfl
      · show left (b :: u.set k true) (r :: l) = _
        rw [left, if_neg hb, h2]; rfl
      · rcases List.mem_cons.1 hx with rfl | hx
        · exact ⟨0, by omega, by simpa using hb, rfl⟩
        · obtain ⟨j, g1, g2, g3⟩ := h3 x hx
          exact ⟨j + 1, by omega, by simpa using g2, by simpa using g3⟩
/-- The reference's search: b is the oldest one of the first i that are not used, -1 if there is none. -/
def Best (u : List Bool) (l : List R) (i : Nat) (b : Int) : Prop :=
  (b = -1 ∧ ∀ j, j < i → u.getD j true = true) ∨
  ∃ k : Nat, b = (k : Int) ∧ k < i ∧ u.getD k true = false ∧ (∀ j, j < k → u.getD j true = false → (l.getD k R0).seq < (l.getD j R0).seq) ∧ ∀ j, k < j → j < i → u.getD j true = false → (l.getD k R0).seq ≤ (l.getD j R0).seq
theorem best_zero (u : List Bool) (l : List R) : Best u l 0 (-1) := .inl ⟨rfl, fun j h => by omega⟩
theorem best_used {u : List Bool} {l : List R} {i : Nat} {b : Int} (h : Best u l i b) (hu : u.getD i true = true) : Best u l (i + 1) b := by
  rcases h with ⟨h1, h2⟩ | ⟨k, h1, h2, h3, h4, h5⟩
  · exact .inl ⟨h1, fun j hj => by
      rcases Nat.lt_or_ge j i with hh | hh
      · exact h2 j hh
      · rw [show j = i by omega]; exact hu⟩
  · refine .inr ⟨k, h1, by omega, h3, h4, fun j g1 g2 g3 => ?_⟩
    rcases Nat.lt_or_ge j i with hh | hh
    · exact h5 j g1 hh g3
    · rw [show j = i by omega, hu] at g3; cases g3
theorem best_first {u : List Bool} {l : List R} {i : Nat} (h : Best u l i (-1)) (hu : u.getD i true = false) : Best u l (i + 1) (i : Int) := by
  rcases h with ⟨h1, h2⟩ | ⟨k, h1, -⟩
  · refine .inr ⟨i, rfl, by omega, hu, fun j hj g => ?_, fun j g1 g2 => by omega⟩
    rw [h2 j hj] at g; cases g
  · omega
theorem best_less {u : List Bool} {l : List R} {i k : Nat} (h : Best u l i (k : Int)) (hu : u.getD i true = false) (hlt : (l.getD i R0).seq < (l.getD k R0).seq) : Best u l (i + 1) (i : Int) := by
  rcases h with ⟨h1, h2⟩ | ⟨m, h1, h2, h3, h4, h5⟩
  · omega
  · obtain rfl : k = m := by omega
    refine .inr ⟨i, rfl, by omega, hu, fun j hj g => ?_, fun j g1 g2 => by omega⟩
    rcases Nat.lt_trichotomy j k with hh | rfl | hh
    · have := h4 j hh g; omega
    · exact hlt
    · have := h5 j hh hj g; omega
theorem best_more {u : List Bool} {l : List R} {i k : Nat} (h : Best u l i (k : Int)) (hle : (l.getD k R0).seq ≤ (l.getD i R0).seq) : Best u l (i + 1) (k : Int) := by
  rcases h with ⟨h1, h2⟩ | ⟨m, h1, h2, h3, h4, h5⟩
  · omega
  · obtain rfl : k = m := by omega
    refine .inr ⟨k, rfl, by omega, h3, h4, fun j g1 g2 g3 => ?_⟩
    rcases Nat.lt_or_ge j i with hh | hh
    · exact h5 j g1 hh g3
    · rw [show j = i by omega]; exact hle
theorem best_num {u : List Bool} {l : List R} {i : Nat} {b : Int} (h : Best u l i b) : b = -1 ∨ ∃ k : Nat, b = (k : Int) ∧ k < i := by
  rcases h with ⟨h1, -⟩ | ⟨k, h1, h2, -⟩
  · exact .inl h1
  · exact .inr ⟨k, h1, h2⟩
/-- Nothing is left: all were used. -/
theorem left_nil : ∀ {u : List Bool} {l : List R}, u.length = l.length → (∀ j, j < l.length → u.getD j true = true) → left u l = []
  | [], [], _, _ => rfl
  | [], _ :: _, h, _ => by cases h
  | _ :: _, [], h, _ => by cases h
  | b :: u, r :: l, hl, h => by
    have hb : b = true := h 0 (by simp)
    rw [left, if_pos hb]
    exact left_nil (by simpa using hl) fun j hj => by
      have := h (j + 1) (by simp; omega)
      simpa using this
/-- A step of the reference: one is picked. -/
theorem best_pick {u : List Bool} {l : List R} {b : Int} (hl : u.length = l.length) (h : Best u l l.length b) (hn : left u l ≠ []) :
    ∃ k : Nat, b = (k : Int) ∧ k < l.length ∧ u.getD k true = false ∧ order (left u l) = l.getD k R0 :: order (left (u.set k true) l) ∧ (left u l).length = (left (u.set k true) l).length + 1 := by
  rcases h with ⟨-, h2⟩ | ⟨k, h1, h2, h3, h4, h5⟩
  · exact absurd (left_nil hl h2) hn
  · obtain ⟨A, B, e1, e2, e3, e4⟩ := left_set hl h2 h3
    refine ⟨k, h1, h2, h3, ?_, ?_⟩
    · rw [e1, e2]
      refine order_pick _ A B (fun a ha => ?_) fun b hb => ?_
      · obtain ⟨j, g1, g2, rfl⟩ := e3 a ha
        exact h4 j g1 g2
      · obtain ⟨j, g1, g2, g3, rfl⟩ := e4 b hb
        exact h5 j g1 g2 g3
    · rw [e1, e2]
      simp only [List.length_append, List.length_cons]
      omega
/-- The reference's Order behind j picks. -/
structure At (l : List R) (u : List Bool) (j : Nat) : Prop where
  len : u.length = l.length
  le : j ≤ l.length
  left : order (left u l) = (order l).drop j
theorem at_zero (l : List R) : At l (List.replicate l.length false) 0 := ⟨List.length_replicate, Nat.zero_le _, by rw [left_none]; rfl⟩
theorem at_next {l : List R} {u : List Bool} {j : Nat} {b : Int} (h : At l u j) (hj : j < l.length) (hb : Best u l l.length b) :
    ∃ k : Nat, b = (k : Int) ∧ k < l.length ∧ u.getD k true = false ∧ At l (u.set k true) (j + 1) ∧ (order l).take (j + 1) = (order l).take j ++ [l.getD k R0] := by
  have hd := h.left
  have hne : Sl.left u l ≠ [] := fun e => by
    rw [e] at hd
    have h1 := congrArg List.length hd
    rw [List.length_drop] at h1
    have h2 := order_length l
    have h3 : (order []).length = 0 := rfl
    omega
  obtain ⟨k, h1, h2, h3, h4, -⟩ := best_pick h.len hb hne
  rw [hd] at h4
  have hlt : j < (order l).length := by rw [order_length]; exact hj
  rw [List.drop_eq_getElem_cons hlt] at h4
  injection h4 with e1 e2
  refine ⟨k, h1, h2, h3, ⟨by rw [List.length_set]; exact h.len, hj, e2.symm⟩, ?_⟩
  rw [List.take_succ_eq_append_getElem hlt, e1]
/-- The least number, next if there is no region. -/
def tail (l : List R) (next : Int) : Int := match order l with | [] => next | r :: _ => r.seq
theorem order_nil {l : List R} : order l = [] ↔ l = [] := by
  rw [← List.length_eq_zero_iff, order_length, List.length_eq_zero_iff]
theorem tail_nil (next : Int) : tail [] next = next := rfl
theorem tail_is {l : List R} (h : l ≠ []) (next : Int) : (∃ r ∈ l, tail l next = r.seq) ∧ ∀ r ∈ l, tail l next ≤ r.seq := by
  have hs := order_srt l
  unfold tail
  cases ho : order l with
  | nil => exact absurd (order_nil.1 ho) h
  | cons x t =>
    rw [ho] at hs
    have hx : x ∈ l := mem_order.1 (by rw [ho]; exact List.mem_cons_self ..)
    refine ⟨⟨x, hx, rfl⟩, fun r hr => ?_⟩
    have hr2 : r ∈ x :: t := by rw [← ho]; exact mem_order.2 hr
    rcases List.mem_cons.1 hr2 with rfl | hr2
    · exact Int.le_refl _
    · exact (List.pairwise_cons.1 hs).1 r hr2
theorem tail_one {l : List R} {next m : Int} (h1 : ∃ r ∈ l, m = r.seq) (h2 : ∀ r ∈ l, m ≤ r.seq) : tail l next = m := by
  obtain ⟨r, hr, rfl⟩ := h1
  obtain ⟨⟨x, hx, e⟩, h4⟩ := tail_is (List.ne_nil_of_mem hr) next
  have := h2 x hx
  have := h4 r hr
  omega
theorem tail_le {l : List R} (next : Int) {r : R} (hr : r ∈ l) : tail l next ≤ r.seq := (tail_is (List.ne_nil_of_mem hr) next).2 r hr
/-- Without some regions the tail is not lower. -/
theorem tail_less {l k : List R} (next : Int) (hk : k ≠ []) (hs : ∀ r ∈ k, r ∈ l) : tail l next ≤ tail k next := by
  obtain ⟨⟨x, hx, e⟩, -⟩ := tail_is hk next
  rw [e]
  exact tail_le next (hs x hx)
def foreign (t : L) (l : List R) : List R := (order l).filter fun r => decide (r.l.id ≠ t.id)
/-- The sum of the capacities. -/
def bytes : List R → Int
  | [] => 0
  | r :: t => cap r.l + bytes t
/-- Is there room for these, and a slot besides? -/
def ok (t : L) (l : List R) : Prop := free t l ≠ [] ∧ bytes l ≤ (t.reg - 1) * cap t
instance (t : L) (l : List R) : Decidable (ok t l) := by unfold ok; infer_instance
/-- How many of a list have to go. -/
def cut (t : L) : List R → Nat
  | [] => 0
  | r :: s => if ok t (r :: s) then 0 else cut t s + 1
theorem cut_le (t : L) : ∀ l, cut t l ≤ l.length
  | [] => Nat.le_refl _
  | r :: s => by
    unfold cut
    have := cut_le t s
    split
    · exact Nat.zero_le _
    · rw [List.length_cons]; omega
theorem cut_at {t : L} : ∀ {l : List R} {k : Nat}, k < l.length → (∀ j, j < k → ¬ ok t (l.drop j)) → ok t (l.drop k) → cut t l = k
  | [], k, h, _, _ => by cases h
  | r :: s, 0, _, _, h => by
    have h : ok t (r :: s) := h
    unfold cut; rw [if_pos h]
  | r :: s, k + 1, h, hn, hk => by
    unfold cut
    have h0 : ¬ ok t (r :: s) := hn 0 (by omega)
    rw [if_neg h0, cut_at (l := s) (k := k) (by simpa using h) (fun j hj => by simpa using hn (j + 1) (by omega)) (by simpa using hk)]
theorem cut_all {t : L} : ∀ {l : List R}, (∀ j, j < l.length → ¬ ok t (l.drop j)) → cut t l = l.length
  | [], _ => rfl
  | r :: s, h => by
    unfold cut
    have h0 : ¬ ok t (r :: s) := h 0 (by simp)
    rw [if_neg h0, cut_all (l := s) fun j hj => by simpa using h (j + 1) (by simp; omega)]
    rfl
theorem ok_form {t : L} {l : List R} (h : ok t l) : form t := by
  refine Decidable.by_contra fun hf => h.1 ?_
  unfold free
  rw [if_neg hf]
theorem cut_bad {t : L} (h : ¬ form t) (l : List R) : cut t l = l.length := cut_all fun _ _ hk => h (ok_form hk)
/-- The lowest free slot, -1 if there is none. -/
def choose (t : L) (l : List R) : Int := match free t l with | [] => -1 | s :: _ => (s : Int)
def spare (t : L) (l : List R) (slot : Int) : Bool := (free t l).any fun s => decide ((s : Int) ≠ slot)
theorem bytes_one (r : R) : bytes [r] = cap r.l := by simp [bytes]
theorem cap_ge (l : L) : 0 ≤ cap l ∧ cap l ≤ 120773 := by
  unfold cap
  split
  · next h =>
    have := form_nums h
    omega
  · omega
theorem bytes_ge : ∀ l, 0 ≤ bytes l ∧ bytes l ≤ 120773 * (l.length : Int)
  | [] => ⟨Int.le_refl _, by simp [bytes]⟩
  | r :: t => by
    have h1 := bytes_ge t
    have h2 := cap_ge r.l
    unfold bytes
    rw [List.length_cons]
    omega
theorem bytes_append : ∀ a b : List R, bytes (a ++ b) = bytes a + bytes b
  | [], b => by simp [bytes]
  | r :: a, b => by
    show cap r.l + bytes (a ++ b) = cap r.l + bytes a + bytes b
    rw [bytes_append a b]; omega
theorem bytes_next (l : List R) (k : Nat) (hk : k < l.length) : bytes (l.take (k + 1)) = bytes (l.take k) + cap (l.getD k R0).l := by
  rw [List.take_succ_eq_append_getElem hk, bytes_append, bytes_one, List.getD_eq_getElem?_getD, List.getElem?_eq_getElem hk]
  rfl
theorem bytes_perm {a b : List R} (h : a.Perm b) : bytes a = bytes b := by
  induction h with
  | nil => rfl
  | cons x _ ih => unfold bytes; rw [ih]
  | swap x y l => simp only [bytes]; omega
  | trans _ _ ih1 ih2 => exact ih1.trans ih2
theorem bytes_same {l : L} : ∀ {a : List R}, (∀ r ∈ a, r.l = l) → bytes a = (a.length : Int) * cap l
  | [], _ => by simp [bytes]
  | r :: a, h => by
    unfold bytes
    rw [h r (List.mem_cons_self ..), bytes_same fun x hx => h x (List.mem_cons_of_mem _ hx), List.length_cons, Int.natCast_succ, Int.add_mul]
    omega
/-- Of a layout with regions of the same size, a slot overlaps that with its number alone. -/
theorem over_same {t l : L} (h : t.rs = l.rs) {s k : Int} (ho : over t s l k) : s = k := by
  have e : ∀ i, spot t i = spot l i := fun i => by unfold spot; rw [h]
  have hl := ho.2.1.1
  have h3 := ho.2.2.1
  have h4 := ho.2.2.2
  rw [e] at h3 h4
  rw [spot_lt hl] at h3 h4
  omega
theorem filter_less (a : Nat) : ∀ (l : List Nat), l.Nodup → l.length ≤ (l.filter fun s => !decide (s = a)).length + 1
  | [], _ => by simp
  | x :: l, h => by
    obtain ⟨h1, h2⟩ := List.nodup_cons.1 h
    by_cases e : x = a
    · subst e
      have : l.filter (fun s => !decide (s = x)) = l := List.filter_eq_self.2 fun y hy => by
        have : y ≠ x := fun e => h1 (e ▸ hy)
        simp [this]
      rw [List.filter_cons, if_neg (by simp), this]
      simp
    · rw [List.filter_cons, if_pos (by simp [e])]
      have := filter_less a l h2
      simp only [List.length_cons]
      omega
/-- Regions that take one slot each leave some free. -/
theorem free_count {t : L} : ∀ {l : List R}, (∀ r ∈ l, ∀ s, over t s r.l r.slot → s = r.slot) → ∀ n : Nat, n ≤ (freeTo t l n).length + l.length
  | [], _, n => by
    have h1 : (List.range n).filter (fun s => !taken t ((s : Nat) : Int) []) = List.range n := List.filter_eq_self.2 (fun _ _ => rfl)
    unfold freeTo
    rw [h1, List.length_range]
    simp
  | r :: l, h, n => by
    have ih := free_count (t := t) (l := l) (fun x hx => h x (List.mem_cons_of_mem _ hx)) n
    have hnd : (freeTo t l n).Nodup := List.Pairwise.filter _ List.nodup_range
    have h1 := filter_less r.slot.toNat _ hnd
    have h2 : ((freeTo t l n).filter fun s => !decide (s = r.slot.toNat)).length ≤ (freeTo t (r :: l) n).length := by
      unfold freeTo
      rw [List.filter_filter, ← List.countP_eq_length_filter, ← List.countP_eq_length_filter]
      refine List.countP_mono_left fun s _ hs => ?_
      rw [Bool.and_eq_true] at hs
      unfold taken
      rw [List.any_cons]
      have h3 : ¬ over t (s : Int) r.l r.slot := fun ho => by
        have := h r (List.mem_cons_self ..) _ ho
        have h4 := hs.1
        simp at h4
        omega
      rw [decide_eq_false h3, Bool.false_or]
      exact hs.2
    rw [List.length_cons]
    omega
theorem free_some {t : L} (ht : form t) {l : List R} (h : ∀ r ∈ l, ∀ s, over t s r.l r.slot → s = r.slot) (hn : (l.length : Int) < t.reg) : free t l ≠ [] := fun e => by
  have h1 := free_count h t.reg.toNat
  rw [freeTo_free ht (by omega), e, List.length_nil] at h1
  omega
/-- A free slot: it is one of the target, and overlaps nothing. -/
theorem mem_free {t : L} {l : List R} {s : Nat} (h : s ∈ free t l) : form t ∧ (s : Int) < t.reg ∧ ∀ r ∈ l, ¬ over t (s : Int) r.l r.slot := by
  unfold free at h
  split at h
  · next hf =>
    unfold freeTo at h
    obtain ⟨h1, h2⟩ := List.mem_filter.1 h
    have h3 := List.mem_range.1 h1
    have := form_nums hf
    refine ⟨hf, by omega, fun r hr ho => ?_⟩
    simp only [Bool.not_eq_true'] at h2
    unfold taken at h2
    have := List.any_eq_false.1 h2 r hr
    exact this (decide_eq_true ho)
  · cases h
theorem free_small (t : L) (l : List R) : (free t l).length ≤ 16 := by
  unfold free
  split
  · next h =>
    have h1 := freeTo_length t l t.reg.toNat
    have h2 := form_nums h
    omega
  · exact Nat.zero_le _
theorem choose_ok {t : L} {l : List R} (h : free t l ≠ []) : 0 ≤ choose t l ∧ choose t l < t.reg ∧ ∀ r ∈ l, ¬ over t (choose t l) r.l r.slot := by
  unfold choose
  cases hf : free t l with
  | nil => exact absurd hf h
  | cons s u =>
    obtain ⟨-, h1, h2⟩ := mem_free (t := t) (l := l) (s := s) (by rw [hf]; exact List.mem_cons_self ..)
    exact ⟨Int.natCast_nonneg _, h1, h2⟩
/-- With regions of the target's size alone, the number decides. -/
theorem ok_same {t l : L} (ht : form t) (hl : form l) (he : t.rs = l.rs) {a : List R} (ha : ∀ r ∈ a, r.l = l) : ok t a ↔ (a.length : Int) ≤ t.reg - 1 := by
  have hc : cap t = cap l := by unfold cap; rw [if_pos ht, if_pos hl, he]
  have hp : 0 < cap l := by
    have := form_nums hl
    unfold cap
    rw [if_pos hl]
    omega
  have hb := bytes_same ha
  unfold ok
  rw [hb, hc]
  constructor
  · rintro ⟨-, h⟩
    exact Int.le_of_mul_le_mul_right h hp
  · intro h
    refine ⟨free_some ht (fun r hr s ho => ?_) (by omega), Int.mul_le_mul_of_nonneg_right h (by omega)⟩
    rw [ha r hr] at ho
    exact over_same he ho
theorem cut_same {t l : L} (ht : form t) (hl : form l) (he : t.rs = l.rs) : ∀ {a : List R}, (∀ r ∈ a, r.l = l) → cut t a = a.length - (t.reg - 1).toNat
  | [], _ => by simp [cut]
  | r :: a, ha => by
    have h1 := ok_same ht hl he ha
    have h2 := form_nums ht
    have ih := cut_same ht hl he (a := a) fun x hx => ha x (List.mem_cons_of_mem _ hx)
    rw [List.length_cons] at h1
    unfold cut
    by_cases h : ok t (r :: a)
    · have := h1.1 h
      rw [if_pos h, List.length_cons]
      omega
    · have : ¬ ((a.length + 1 : Nat) : Int) ≤ t.reg - 1 := fun e => h (h1.2 e)
      rw [if_neg h, ih, List.length_cons]
      omega
end Sl
end Go.Proofs.Ytmkilbogdenljaa
