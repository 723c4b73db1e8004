/-
  flashdev's survivors: how many bytes of each dirty sector a crash keeps.
-/
import Derived.Test.YtfacinlpkblopaaFlashWrites
import Derived.OwnWalk
namespace Go.Proofs.Ytfacinlpkblopaa
open Go.RowKit Go.Maps

/-- Bools, and pairs of integers, read through a slice. -/
def Bls (w : World) (B : Nat) (A : Option Addr) (l : List Bool) : Prop := ∀ k, k < l.length → ∃ ad, A = some ad ∧ ad.block < B ∧ w.cell? (ad.add k) = some (.bool (l.getD k false))
def Trs (w : World) (B : Nat) (A : Option Addr) (l : List (Int × Int)) : Prop := ∀ k, k < l.length → ∃ ad, A = some ad ∧ ad.block < B ∧ w.cell? (ad.add (k * 2)) = some (.int .i64 (l.getD k (0, 0)).1) ∧ w.cell? (ad.add (k * 2 + 1)) = some (.int .i64 (l.getD k (0, 0)).2)
theorem Bls.below {B C : Nat} {w w' : World} {A : Option Addr} {l : List Bool} (h : Bls w B A l) (hb : Below C w w') (hB : B ≤ C) : Bls w' B A l := fun k hk => by
  obtain ⟨ad, h2, h3, h4⟩ := h k hk
  exact ⟨ad, h2, h3, (hb.cell (by rw [add_block]; omega)).trans h4⟩
theorem Trs.below {B C : Nat} {w w' : World} {A : Option Addr} {l : List (Int × Int)} (h : Trs w B A l) (hb : Below C w w') (hB : B ≤ C) : Trs w' B A l := fun k hk => by
  obtain ⟨ad, h2, h3, h4, h5⟩ := h k hk
  exact ⟨ad, h2, h3, (hb.cell (by rw [add_block]; omega)).trans h4, (hb.cell (by rw [add_block]; omega)).trans h5⟩
/-- A row of integers in a block of its own. -/
def ivals (L : List Nat) : List Value := L.map fun x => .int .i64 ((x : Nat) : Int)
def IRow (w : World) (G : Nat) (L : List Nat) : Prop := w.heap[G]? = some (.cells (ivals L).toArray 3 (0, 0))
theorem ivals_at {L : List Nat} {j : Nat} (hj : j < L.length) : (ivals L)[j]? = some (.int .i64 ((L.getD j 0 : Nat) : Int)) := by
  unfold ivals
  rw [List.getElem?_map, List.getElem?_eq_getElem hj, List.getD_eq_getElem?_getD, List.getElem?_eq_getElem hj]; rfl
theorem IRow.cell {w : World} {G : Nat} {L : List Nat} (h : IRow w G L) {j : Nat} (hj : j < L.length) : w.cell? ⟨G, j, none⟩ = some (.int .i64 ((L.getD j 0 : Nat) : Int)) ∧ w.frozen? ⟨G, j, none⟩ = false := by
  refine ⟨?_, frozen_of_row w G j _ _ h⟩
  rw [cell_of_row w G j _ _ _ h, List.getElem?_toArray]
  exact ivals_at hj
theorem IRow.set {w : World} {G : Nat} {L : List Nat} (h : IRow w G L) (j x : Nat) : IRow (w.setCell ⟨G, j, none⟩ (.int .i64 (x : Int))) G (L.set j x) := by
  unfold IRow
  rw [heap_setCell_same w G j _ _ _ h]
  simp [ivals, List.map_set]
/-! ### how many bytes are kept -/
def tearHits (j : Nat) (t : Int × Int) : Bool := t.1 == (j : Int) && (decide (1 ≤ t.2) && decide (t.2 < 64))
def keptBy (keep : List Bool) (T : List (Int × Int)) (j : Nat) : Nat :=
  match T.find? (tearHits j) with
  | some t => t.2.toNat
  | none => if keep.getD j false = true then 64 else 0
theorem keptBy_le (keep : List Bool) (T : List (Int × Int)) (j : Nat) : keptBy keep T j ≤ 64 := by
  unfold keptBy
  cases h : T.find? (tearHits j) with
  | none => dsimp only; split <;> omega
  | some t =>
    have := List.find?_some h
    simp [tearHits] at this
    dsimp only
    omega
theorem take_nextT {α : Type} (l : List α) (k : Nat) (hk : k < l.length) : l.take (k + 1) = l.take k ++ [l[k]] := by
  rw [List.take_succ_eq_append_getElem hk]
/-- One tear more. -/
theorem keptBy_next (keep : List Bool) (T : List (Int × Int)) (t : Int × Int) (j : Nat) :
    keptBy keep (T ++ [t]) j = if tearHits j t = true ∧ ¬ (1 ≤ keptBy keep T j ∧ keptBy keep T j < 64) then t.2.toNat else keptBy keep T j := by
  unfold keptBy
  rw [List.find?_append]
  cases h : T.find? (tearHits j) with
  | some t' =>
    have := List.find?_some h
    simp [tearHits] at this
    simp only [Option.some_or]
    rw [if_neg (by omega)]
  | none =>
    simp only [Option.none_or, List.find?_cons, List.find?_nil]
    have hx : ∀ x, x = (if keep.getD j false = true then 64 else 0) → ¬ (1 ≤ x ∧ x < 64) := fun x hx => by split at hx <;> omega
    by_cases h2 : tearHits j t = true
    · simp only [h2]
      rw [if_pos ⟨trivial, hx _ rfl⟩]
    · have h3 : tearHits j t = false := by simpa using h2
      simp only [h3, Bool.false_eq_true, false_and, if_false]
def Survived (w : World) (d : Nat) (keep : List Bool) (T : List (Int × Int)) (e : Ending) (w' : World) : Prop :=
  ∃ (G : Nat) (L : List Nat), e = .returned (.slice (some ⟨G, 0, none⟩) d d) ∧ w.heap.size ≤ G ∧ IRow w' G L ∧ L.length = d ∧ (∀ j, j < d → L.getD j 0 = keptBy keep T j) ∧ Below w.heap.size w w'
theorem info_int : (Try.prog.info? 3).map (fun i => (i.zero, i.size, i.bytes)) = some (some (.int .i64 0), 1, 8) := by kernel_rfl
theorem made_ivals (k : Nat) : (madeCells (Value.cells (.int .i64 0)) (k * 1)).toList = ivals (List.replicate k 0) := by
  simp only [madeCells, ivals, Value.cells, List.map_replicate]
  apply List.ext_getElem
  · simp
  · intro i h1 h2
    simp [Nat.mod_one]
theorem getD_set {L : List Nat} {j x k : Nat} (hj : j < L.length) : (L.set j x).getD k 0 = if k = j then x else L.getD k 0 := by
  rw [List.getD_eq_getElem?_getD, List.getD_eq_getElem?_getD, List.getElem?_set]
  by_cases e : j = k
  · subst e; simp [hj]
  · rw [if_neg e, if_neg (fun h => e h.symm)]
/-- What the first loop has laid. -/
def Laid1 (keep : List Bool) (d k : Nat) (L : List Nat) : Prop := L.length = d ∧ ∀ j, j < d → L.getD j 0 = if j < k ∧ keep.getD j false = true then 64 else 0
theorem laid1_start (keep : List Bool) (d : Nat) : Laid1 keep d 0 (List.replicate d 0) := by
  refine ⟨List.length_replicate, fun j hj => ?_⟩
  rw [if_neg (by omega), List.getD_eq_getElem?_getD, List.getElem?_replicate]
  split <;> rfl
theorem laid1_yes {keep : List Bool} {d k : Nat} {L : List Nat} (h : Laid1 keep d k L) (hk : k < d) (hb : keep.getD k false = true) : Laid1 keep d (k + 1) (L.set k 64) := by
  refine ⟨by rw [List.length_set]; exact h.1, fun j hj => ?_⟩
  rw [getD_set (by rw [h.1]; exact hk)]
  by_cases e : j = k
  · subst e; rw [if_pos rfl, if_pos ⟨by omega, hb⟩]
  · rw [if_neg e, h.2 j hj]
    by_cases e2 : j < k ∧ keep.getD j false = true
    · rw [if_pos e2, if_pos ⟨by omega, e2.2⟩]
    · rw [if_neg e2, if_neg (fun h => e2 ⟨by omega, h.2⟩)]
theorem laid1_no {keep : List Bool} {d k : Nat} {L : List Nat} (h : Laid1 keep d k L) (hb : keep.getD k false = false) : Laid1 keep d (k + 1) L := by
  refine ⟨h.1, fun j hj => ?_⟩
  rw [h.2 j hj]
  by_cases e2 : j < k ∧ keep.getD j false = true
  · rw [if_pos e2, if_pos ⟨by omega, e2.2⟩]
  · rw [if_neg e2, if_neg (fun h => ?_)]
    by_cases e : j = k
    · subst e; rw [hb] at h; cases h.2
    · exact e2 ⟨by omega, h.2⟩
/-- .. and the second. -/
def Laid2 (keep : List Bool) (T : List (Int × Int)) (d k : Nat) (L : List Nat) : Prop := L.length = d ∧ ∀ j, j < d → L.getD j 0 = keptBy keep (T.take k) j
theorem laid2_start {keep : List Bool} {T : List (Int × Int)} {d k : Nat} {L : List Nat} (h : Laid1 keep d k L) (hk : k = d ∨ keep.length ≤ k) : Laid2 keep T d 0 L := by
  refine ⟨h.1, fun j hj => ?_⟩
  rw [h.2 j hj]
  show _ = if keep.getD j false = true then 64 else 0
  by_cases e : keep.getD j false = true
  · have hjk : j < k := by
      rcases hk with h | h
      · omega
      · rcases Nat.lt_or_ge j keep.length with h2 | h2
        · omega
        · rw [List.getD_eq_getElem?_getD, List.getElem?_eq_none h2] at e; cases e
    rw [if_pos e, if_pos ⟨hjk, e⟩]
  · rw [if_neg e, if_neg (fun h => e h.2)]
theorem laid2_set {keep : List Bool} {T : List (Int × Int)} {d k K N : Nat} {L : List Nat} {t : Int × Int} (h : Laid2 keep T d k L) (hk : k < T.length) (ht : T.getD k (0, 0) = t) (h1 : t.1 = (K : Int)) (h2 : t.2 = (N : Int)) (hK : K < d) (hN1 : 1 ≤ N) (hN2 : N < 64)
    (hL : ¬ (1 ≤ L.getD K 0 ∧ L.getD K 0 < 64)) : Laid2 keep T d (k + 1) (L.set K N) := by
  have e : T[k] = t := by rw [List.getD_eq_getElem?_getD, List.getElem?_eq_getElem hk] at ht; exact ht
  refine ⟨by rw [List.length_set]; exact h.1, fun j hj => ?_⟩
  rw [getD_set (by rw [h.1]; exact hK), take_nextT T k hk, e, keptBy_next]
  by_cases e3 : j = K
  · subst e3
    rw [if_pos rfl, if_pos ⟨by simp [tearHits, h1, h2]; omega, by rw [← h.2 j hj]; exact hL⟩, h2, Int.toNat_natCast]
  · rw [if_neg e3, if_neg (fun h' => e3 ?_), h.2 j hj]
    have := h'.1
    simp [tearHits, h1] at this
    have := this.1
    omega
theorem laid2_no {keep : List Bool} {T : List (Int × Int)} {d k : Nat} {L : List Nat} {t : Int × Int} (h : Laid2 keep T d k L) (hk : k < T.length) (ht : T.getD k (0, 0) = t)
    (hn : ∀ j, j < d → tearHits j t = true → 1 ≤ L.getD j 0 ∧ L.getD j 0 < 64) : Laid2 keep T d (k + 1) L := by
  have e : T[k] = t := by rw [List.getD_eq_getElem?_getD, List.getElem?_eq_getElem hk] at ht; exact ht
  refine ⟨h.1, fun j hj => ?_⟩
  rw [take_nextT T k hk, e, keptBy_next, if_neg (fun h' => h'.2 (by rw [← h.2 j hj]; exact hn j hj h'.1)), h.2 j hj]
end Go.Proofs.Ytfacinlpkblopaa
