/-
  A slice of things of any shape that came in, opened.
-/
import Derived.Test.YtcdomlgnfbdeoaaArr
import Derived.Deep.Slices
set_option maxRecDepth 100000
namespace Go.Proofs.Ytcdomlgnfbdeoaa
open Go.ChangeShapes Go.WideShapes Go.ChangeAt Go.RowKit
section
variable {H : Type} {enc : TypeId × Value → H} {W : World}
theorem pick_shape {α : Type} (z : α) {n : Nat} {p : Nat → α → Prop} (h : ∀ i, i < n → ∃ q, p i q) : ∃ l : List α, l.length = n ∧ ∀ i, i < n → p i (l.getD i z) := by
  induction n with
  | zero => exact ⟨[], rfl, fun i hi => absurd hi (by omega)⟩
  | succ n ih =>
    obtain ⟨l, hl, hp⟩ := ih fun i hi => h i (by omega)
    obtain ⟨q, hq⟩ := h n (by omega)
    refine ⟨l ++ [q], by simp [hl], fun i hi => ?_⟩
    rcases Nat.lt_or_ge i n with h2 | h2
    · rw [List.getD_eq_getElem?_getD, List.getElem?_append_left (by omega), ← List.getD_eq_getElem?_getD]
      exact hp i h2
    · obtain rfl : i = n := by omega
      rw [List.getD_eq_getElem?_getD, List.getElem?_append_right (by omega), hl, Nat.sub_self]
      exact hq
/-- A slice of things of any shape, opened. -/
theorem shape_in {α : Type} (S : Shape α) {tS e : TypeId} (hu : Try.prog.underlying tS = some (.slice e)) (ce : Try.prog.cellsOf e = S.m) (hcell : ∀ {fuel : Nat} {cs : List Value} {y : DataW H × List MemPlace}, cs.length = S.m → DataW.trod enc Try.prog W 0 (fun _ => true) true fuel e cs = some y → ∃ a, cs = S.cs a)
    {base : Nat} {v : Value} {d : DataW H} {ps : List MemPlace} (hval : Value.okWide Try.prog W .any base tS v) (hd : DataW.Trod enc Try.prog W 0 (fun _ => true) true tS v d ps) :
    ∃ A n cap l, v = .slice A n cap ∧ SlIs A n cap ∧ Hid (l.length = n) ∧ Hid (Arr S W 0 W.heap.size A l) := by
  obtain ⟨A, n, cap, rfl⟩ := okWide_slice hu hval
  obtain ⟨fuel, hf⟩ := hd
  rcases Go.Deep.open_slice hu hf with ⟨hcs, _⟩ | ⟨a, len, cap', m, q, D, PL, hcs, _, hl, hm, hmm, _, hx⟩
  · simp [Value.cells] at hcs
    obtain ⟨rfl, rfl, rfl⟩ := hcs
    exact ⟨none, 0, 0, [], rfl, ⟨fun _ => ⟨rfl, rfl⟩, Nat.le_refl _, by omega⟩, rfl, Arr.nil⟩
  · simp [Value.cells] at hcs
    obtain ⟨rfl, rfl, rfl⟩ := hcs
    have each : ∀ i, i < n → ∃ q : α, ∀ j x, (S.cs q)[j]? = some x → W.cell? (a.add (i * S.m + j)) = some x := by
      intro i hi
      obtain ⟨cs', h1, h2⟩ := hx i (by simp only [if_true] at hmm; omega)
      rw [ce] at h1
      obtain ⟨_, hlen, hcell'⟩ := World.cells?_some h1
      obtain ⟨p, rfl⟩ := hcell hlen h2
      refine ⟨p, fun j x hj => ?_⟩
      have hj8 : j < S.m := by
        rcases Nat.lt_or_ge j S.m with h | h
        · exact h
        · rw [List.getElem?_eq_none (by rw [S.len]; exact h)] at hj; cases hj
      have e := hcell' j hj8
      rw [add_add] at e
      rw [e]
      exact hj
    obtain ⟨l, hll, hp⟩ := pick_shape S.z each
    refine ⟨some a, n, cap, l, rfl, ⟨(fun h => by cases h), hl, by unfold maxLen at hm; exact hm⟩, hll, fun k hk => ?_⟩
    have h := hp k (by omega)
    refine ⟨a, rfl, Nat.zero_le _, ?_, h⟩
    have h0 := World.block_lt_of_cell? W _ (h 0 _ (List.getElem?_eq_getElem (by rw [S.len]; exact S.pos)))
    rwa [add_block] at h0
/-- A slice of things of any shape, opened, with what is known of each. -/
theorem shape_trod {α : Type} (S : Shape α) (P : α → Prop) {tS e : TypeId} {v : Value} {fuel : Nat} {x : DataW H × List MemPlace} (hu : Try.prog.underlying tS = some (.slice e)) (ce : Try.prog.cellsOf e = S.m) (hcell : ∀ {fuel : Nat} {cs : List Value} {y : DataW H × List MemPlace}, cs.length = S.m → DataW.trod enc Try.prog W 0 (fun _ => true) true fuel e cs = some y → ∃ a, cs = S.cs a ∧ P a)
    (h : DataW.trod enc Try.prog W 0 (fun _ => true) true fuel tS [v] = some x) :
    ∃ A n cap l, v = .slice A n cap ∧ SlIs A n cap ∧ l.length = n ∧ Arr S W 0 W.heap.size A l ∧ ∀ k, k < n → P (l.getD k S.z) := by
  rcases Go.Deep.open_slice hu h with ⟨hcs, _⟩ | ⟨a, len, cap', m, q, D, PL, hcs, _, hl, hm, hmm, _, hx⟩
  · injection hcs with hcs
    exact ⟨none, 0, 0, [], hcs, ⟨fun _ => ⟨rfl, rfl⟩, Nat.le_refl _, by omega⟩, rfl, Arr.nil, fun k hk => absurd hk (by omega)⟩
  · injection hcs with hcs
    have each : ∀ i, i < len → ∃ q : α, P q ∧ ∀ j x, (S.cs q)[j]? = some x → W.cell? (a.add (i * S.m + j)) = some x := by
      intro i hi
      obtain ⟨cs', h1, h2⟩ := hx i (by simp only [if_true] at hmm; omega)
      rw [ce] at h1
      obtain ⟨_, hlen, hcell'⟩ := World.cells?_some h1
      obtain ⟨p, rfl, hp⟩ := hcell hlen h2
      refine ⟨p, hp, fun j x hj => ?_⟩
      have hj8 : j < S.m := by
        rcases Nat.lt_or_ge j S.m with h | h
        · exact h
        · rw [List.getElem?_eq_none (by rw [S.len]; exact h)] at hj; cases hj
      have e := hcell' j hj8
      rw [add_add] at e
      rw [e]
      exact hj
    obtain ⟨l, hll, hp⟩ := pick_shape S.z each
    refine ⟨some a, len, cap', l, hcs, ⟨(fun h => by cases h), hl, by unfold maxLen at hm; exact hm⟩, hll, fun k hk => ?_, fun k hk => (hp k hk).1⟩
    have h := (hp k (by omega)).2
    refine ⟨a, rfl, Nat.zero_le _, ?_, h⟩
    have h0 := World.block_lt_of_cell? W _ (h 0 _ (List.getElem?_eq_getElem (by rw [S.len]; exact S.pos)))
    rwa [add_block] at h0
end
end Go.Proofs.Ytcdomlgnfbdeoaa
