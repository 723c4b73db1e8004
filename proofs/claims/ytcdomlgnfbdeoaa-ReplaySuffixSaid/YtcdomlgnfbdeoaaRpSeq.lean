/-
  The first of Short's rows alone: the number of one batch written, all of them numbered, the rest of the row.
-/
import Derived.Test.YtcdomlgnfbdeoaaRpLawLater
import Derived.Test.YtcdomlgnfbdeoaaSetAt
set_option maxRecDepth 100000
namespace Go.Proofs.Ytcdomlgnfbdeoaa
open Go.RowKit
/-- A row of batches, apart from the lists in them. -/
structure ShA (N : Nat) (w : World) (av : Value) (l : List Bt) : Prop where
  ra : w.ownsRow 0 34 2 av l.length (batS.flat l)
  oa : ∀ g, av.ownBlock = some g → N ≤ g
  inn : ∀ b ∈ l, SRow (fun k => N ≤ k ∧ av.ownBlock ≠ some k) 44 6 w b.v b.n (fdS.flat b.fds) ∧ b.n ≤ 8 ∧ ∀ f ∈ b.fds, f.rd.here w N ∧ f.rd.n1 ≤ 10
theorem ShSt.first {N : Nat} {w : World} {av bv : Value} {l : List Bt} (h : ShSt N w av bv l l l) : ShA N w av l :=
  ⟨h.ra, fun g e => (h.oa g e).1, fun b hb => ⟨(h.inn b hb).1.mono fun _ _ e => ⟨e.1, e.2.1⟩, (h.inn b hb).2⟩⟩
section
variable {N : Nat} {w w' : World} {av : Value} {l : List Bt}
theorem ShA.next (h : ShA N w av l) (hN : N ≤ w.heap.size) (hb : Below w.heap.size w w') : ShA N w' av l :=
  ⟨ownsRow_block h.ra fun k e => hb.block k (h.ra.lt k e).2, h.oa, fun b hm => ⟨(h.inn b hm).1.new hb, (h.inn b hm).2.1, fun f hf => ⟨((h.inn b hm).2.2 f hf).1.below hb hN, ((h.inn b hm).2.2 f hf).2⟩⟩⟩
theorem ShA.read (h : ShA N w av l) (hN : N ≤ w.heap.size) : (∀ b ∈ l, b.fds.length ≤ 8) ∧ (∀ b ∈ l, ∀ f ∈ b.fds, f.rd.n1 ≤ 10) ∧ ∃ A c, av = .slice A l.length c ∧ SlIs A l.length c ∧ (A = none ∨ ∃ g, A = some ⟨g, 0, none⟩) ∧ BtsAt w w.heap.size A l := by
  have hlen : ∀ b ∈ l, b.fds.length = b.n := fun b hb => ARow.length (S := fdS) (h.inn b hb).1.1
  refine ⟨fun b hb => by have := hlen b hb; have := (h.inn b hb).2.1; omega, fun b hb f hf => ((h.inn b hb).2.2 f hf).2, ?_⟩
  obtain ⟨A, c, e, hs, ha⟩ := ARow.open_ (S := batS) h.ra
  have hA : A = none ∨ ∃ g, A = some ⟨g, 0, none⟩ := by
    rcases h.ra.2 with ⟨e2, -⟩ | ⟨g, cap, cur, e2, -⟩
    · rw [e] at e2; injection e2 with e2; exact .inl e2
    · rw [e] at e2; injection e2 with e2; exact .inr ⟨g, e2⟩
  refine ⟨A, c, e, hs, hA, ha, fun b hm => ?_⟩
  obtain ⟨hr, -, hf⟩ := h.inn b hm
  obtain ⟨A1, c1, e1, hs1, ha1⟩ := ARow.open_ (S := fdS) hr.1
  injection e1 with e1 e2 e3
  subst e3
  rw [← e1] at hs1 ha1
  exact ⟨hs1, hlen b hm, ha1, fun f hm => by
    obtain ⟨⟨p1, p2, p3⟩, ⟨q1, q2, q3⟩⟩ := (hf f hm).1
    exact ⟨⟨p1, p2, p3.more hN⟩, ⟨q1, q2, q3.more hN⟩⟩⟩
theorem bat_set (s : Int) : ∀ (l : List Bt) (i : Nat), i < l.length → (batS.flat l).set (i * 2) (.int .i64 s) = batS.flat (l.set i { l.getD i Bt0 with seq := s })
  | [], _, h => absurd h (Nat.not_lt_zero _)
  | b :: l, 0, _ => rfl
  | b :: l, i + 1, h => by
    have e : (batS.flat (b :: l)) = .int .i64 b.seq :: .slice b.A b.n b.c :: batS.flat l := rfl
    rw [e, show (i + 1) * 2 = i * 2 + 1 + 1 by omega, List.set_cons_succ, List.set_cons_succ, bat_set s l i (by simpa using h)]
    rfl
/-- The number of one batch is written. -/
theorem ShA.put {g m c : Nat} (h : ShA N w (.slice (some ⟨g, 0, none⟩) m c) l) (i : Nat) (hi : i < l.length) (s : Int) : ShA N (w.setCell ⟨g, i * 2, none⟩ (.int .i64 s)) (.slice (some ⟨g, 0, none⟩) m c) (l.set i { l.getD i Bt0 with seq := s }) := by
  have hN : N ≤ g := h.oa g rfl
  have hk : Kept (fun k => k = g) w (w.setCell ⟨g, i * 2, none⟩ (.int .i64 s)) := Kept.setCell (S := fun k => k = g) w ⟨g, i * 2, none⟩ _ rfl
  have hgw : g < w.heap.size := (h.ra.lt g rfl).2
  have hbl : Below N w (w.setCell ⟨g, i * 2, none⟩ (.int .i64 s)) := hk.below (by omega) fun k e => by rw [e]; exact hN
  refine ⟨?_, h.oa, fun b hb => ?_⟩
  · rw [List.length_set, ← bat_set s l i hi]
    refine ⟨by rw [List.length_set]; exact h.ra.1, ?_⟩
    rcases h.ra.2 with ⟨e, -⟩ | ⟨g', cap, cur, e, hb', hg, hnc, hcm, hsz, htk⟩
    · cases e
    · injection e with e1 e2 e3
      injection e1 with e1
      injection e1 with e1
      subst e1
      refine .inr ⟨g, cap, (cur.toList.set (i * 2) (.int .i64 s)).toArray, by rw [e2, e3], hb', ?_, hnc, hcm, by rw [List.size_toArray, List.length_set, Array.length_toList]; exact hsz, ?_⟩
      · have := set_at (cs := cur.toList) (by rw [Array.toArray_toList]; exact hg) (i * 2) (.int .i64 s)
        exact this
      · rw [List.take_set, htk]
  · have hx : ∃ b0 ∈ l, b.A = b0.A ∧ b.n = b0.n ∧ b.c = b0.c ∧ b.fds = b0.fds := by
      rcases List.mem_or_eq_of_mem_set hb with h1 | h1
      · exact ⟨b, h1, rfl, rfl, rfl, rfl⟩
      · exact ⟨l.getD i Bt0, mem_getD _ hi, by rw [h1], by rw [h1], by rw [h1], by rw [h1]⟩
    obtain ⟨b0, hb0, e1, e2, e3, e4⟩ := hx
    obtain ⟨h1, h2, h3⟩ := h.inn b0 hb0
    have hv : b.v = b0.v := by unfold Bt.v; rw [e1, e2, e3]
    rw [hv, e2, e4]
    exact ⟨h1.kept hk fun k _ e e2 => e.2 (by rw [e2]; rfl), h2, fun f hf => ⟨(h3 f hf).1.below hbl (Nat.le_refl _), (h3 f hf).2⟩⟩
end
/-- The first i of them numbered from 1 on. -/
def numd (l : List Bt) (i : Nat) : List Bt := (List.range l.length).map fun j => if j < i then { l.getD j Bt0 with seq := (j : Int) + 1 } else l.getD j Bt0
theorem numd_length (l : List Bt) (i : Nat) : (numd l i).length = l.length := by unfold numd; rw [List.length_map, List.length_range]
theorem numd_at (l : List Bt) (i j : Nat) (hj : j < l.length) : (numd l i).getD j Bt0 = if j < i then { l.getD j Bt0 with seq := (j : Int) + 1 } else l.getD j Bt0 := by
  unfold numd
  rw [List.getD_eq_getElem?_getD, List.getElem?_map, List.getElem?_range hj]
  rfl
theorem numd_zero (l : List Bt) : numd l 0 = l := by
  refine List.ext_getElem? fun j => ?_
  rcases Nat.lt_or_ge j l.length with h | h
  · have e := numd_at l 0 j h
    rw [if_neg (Nat.not_lt_zero _)] at e
    rw [List.getD_eq_getElem?_getD, List.getD_eq_getElem?_getD, List.getElem?_eq_getElem (by rw [numd_length]; exact h), List.getElem?_eq_getElem h] at e
    rw [List.getElem?_eq_getElem (by rw [numd_length]; exact h), List.getElem?_eq_getElem h]
    exact congrArg some e
  · rw [List.getElem?_eq_none (by rw [numd_length]; exact h), List.getElem?_eq_none h]
theorem numd_next (l : List Bt) (i : Nat) (hi : i < l.length) : (numd l i).set i { (numd l i).getD i Bt0 with seq := (i : Int) + 1 } = numd l (i + 1) := by
  have e0 := numd_at l i i hi
  rw [if_neg (Nat.lt_irrefl _)] at e0
  rw [e0]
  refine List.ext_getElem? fun j => ?_
  rcases Nat.lt_or_ge j l.length with h | h
  · have e1 := numd_at l i j h
    have e2 := numd_at l (i + 1) j h
    rw [List.getD_eq_getElem?_getD, List.getElem?_eq_getElem (by rw [numd_length]; exact h)] at e1 e2
    rw [List.getElem?_set, List.getElem?_eq_getElem (by rw [numd_length]; exact h), List.getElem?_eq_getElem (by rw [numd_length]; exact h)]
    by_cases hij : i = j
    · subst hij
      rw [if_pos rfl, if_pos (by rw [numd_length]; exact h)]
      rw [if_pos (Nat.lt_succ_self _)] at e2
      exact congrArg some e2.symm
    · rw [if_neg hij]
      refine congrArg some (e1.trans (Eq.trans ?_ e2.symm))
      by_cases hlt : j < i
      · rw [if_pos hlt, if_pos (by omega)]
      · rw [if_neg hlt, if_neg (by omega)]
  · rw [List.getElem?_eq_none (by rw [List.length_set, numd_length]; exact h), List.getElem?_eq_none (by rw [numd_length]; exact h)]
/-- All of them numbered: the records of the first k have numbers up to k, those of the others greater ones. -/
theorem numd_seq (l : List Bt) (j : Nat) (hj : j < l.length) : ((numd l l.length).getD j Bt0).seq = (j : Int) + 1 := by rw [numd_at l _ j hj, if_pos hj]
theorem seq_of {l : List Bt} {P : Int → Prop} (h : ∀ b ∈ l, P b.seq) : ∀ f ∈ fsOf l, P f.seq := fun f hf => by
  unfold fsOf rsOf at hf
  obtain ⟨r, hr, rfl⟩ := List.mem_map.1 hf
  obtain ⟨b, hb, hr⟩ := List.mem_flatMap.1 hr
  unfold Bt.rs at hr
  obtain ⟨x, -, rfl⟩ := List.mem_map.1 hr
  exact h b hb
theorem numd_two (l : List Bt) (k : Nat) : (∀ f ∈ fsOf ((numd l l.length).take k), f.seq ≤ (k : Int)) ∧ ∀ f ∈ fsOf ((numd l l.length).drop k), (k : Int) < f.seq := by
  have hz := numd_length l l.length
  constructor
  · refine seq_of (P := fun s => s ≤ (k : Int)) fun b hb => ?_
    obtain ⟨j, hj, rfl⟩ := List.getElem_of_mem hb
    rw [List.length_take] at hj
    have e := numd_seq l j (by omega)
    rw [List.getD_eq_getElem?_getD, List.getElem?_eq_getElem (by omega)] at e
    rw [List.getElem_take]
    show Bt.seq _ ≤ _
    have e2 : ((numd l l.length)[j]'(by omega)).seq = (j : Int) + 1 := e
    rw [e2]
    omega
  · refine seq_of (P := fun s => (k : Int) < s) fun b hb => ?_
    obtain ⟨j, hj, rfl⟩ := List.getElem_of_mem hb
    rw [List.length_drop] at hj
    have e := numd_seq l (k + j) (by omega)
    rw [List.getD_eq_getElem?_getD, List.getElem?_eq_getElem (by omega)] at e
    rw [List.getElem_drop]
    have e2 : ((numd l l.length)[k + j]'(by omega)).seq = ((k + j : Nat) : Int) + 1 := e
    rw [e2]
    omega
/-- A list's rest, read through the rest of the slice. -/
theorem bats_drop {w : World} {B g : Nat} {l : List Bt} (h : BtsAt w B (some ⟨g, 0, none⟩) l) (k : Nat) : BtsAt w B (some ⟨g, k * 2, none⟩) (l.drop k) := by
  refine ⟨fun i hi => ?_, fun b hb => h.2 b (List.mem_of_mem_drop hb)⟩
  rw [List.length_drop] at hi
  obtain ⟨ad, e, h2, h3, h4⟩ := h.1 (k + i) (by omega)
  injection e with e
  subst e
  refine ⟨_, rfl, h2, h3, fun j v hv => ?_⟩
  have hg : (l.drop k).getD i batS.z = l.getD (k + i) batS.z := by
    rw [List.getD_eq_getElem?_getD, List.getElem?_drop, ← List.getD_eq_getElem?_getD]
  rw [hg] at hv
  have := h4 j v hv
  rw [arr_flat] at this ⊢
  rw [show k * 2 + (i * batS.m + j) = 0 + ((k + i) * batS.m + j) by show k * 2 + (i * 2 + j) = 0 + ((k + i) * 2 + j); omega]
  exact this
end Go.Proofs.Ytcdomlgnfbdeoaa
