/-
  What came in, opened: records and bools in slices.
-/
import Derived.Test.YtjmhnbohojdodaaDoorPkLawTakes
import Derived.Test.YtjmhnbohojdodaaDoorPlRows
import Derived.Deep.Slices
import Derived.Deep.Grids
set_option maxRecDepth 100000
namespace Go.Proofs.YtjmhnbohojdodaaDoor
open Go.ChangeShapes Go.WideShapes Go.ChangeAt Go.RowKit
section
variable {H : Type} {enc : TypeId × Value → H} {W : World}
theorem pick_some {α : Type} (z : α) {n : Nat} {p : Nat → α → Prop} (h : ∀ i, i < n → ∃ q, p i q) : ∃ l : List α, l.length = n ∧ ∀ i, i < n → p i (l.getD i z) := by
  induction n with
  | zero => exact ⟨[], rfl, fun i hi => absurd hi (by omega)⟩
  | succ n ih =>
    obtain ⟨l, hl, hp⟩ := ih fun i hi => h i (by omega)
    obtain ⟨q, hq⟩ := h n (by omega)
    refine ⟨l ++ [q], by simp [hl], fun i hi => ?_⟩
    rcases Nat.lt_or_ge i n with h2 | h2
    · rw [getD_left _ _ _ (by omega)]
      exact hp i h2
    · obtain rfl : i = n := by omega
      rw [getD_right _ _ _ (by omega), hl, Nat.sub_self]
      exact hq
/-- A slice of things of any shape, opened, with what is known of each. -/
theorem shape_trod {α : Type} (S : Shape α) (P : α → Prop) {tS e : TypeId} {v : Value} {fuel : Nat} {x : DataW H × List MemPlace} (hu : Tryd.prog.underlying tS = some (.slice e)) (ce : Tryd.prog.cellsOf e = S.m) (hcell : ∀ {fuel : Nat} {cs : List Value} {y : DataW H × List MemPlace}, cs.length = S.m → DataW.trod enc Tryd.prog W 0 (fun _ => true) true fuel e cs = some y → ∃ a, cs = S.cs a ∧ P a)
    (h : DataW.trod enc Tryd.prog W 0 (fun _ => true) true fuel tS [v] = some x) :
    ∃ A n cap l, v = .slice A n cap ∧ SlIs A n cap ∧ l.length = n ∧ Arr S W 0 W.heap.size A l ∧ ∀ k, k < n → P (l.getD k S.z) := by
  rcases Go.Deep.open_slice hu h with ⟨hcs, _⟩ | ⟨a, len, cap', m, q, D, PL, hcs, _, hl, hm, hmm, _, hx⟩
  · injection hcs with hcs
    exact ⟨none, 0, 0, [], hcs, ⟨fun _ => ⟨rfl, rfl⟩, Nat.le_refl _, by omega⟩, rfl, Arr.nil, fun k hk => absurd hk (by omega)⟩
  · injection hcs with hcs
    have each : ∀ i, i < len → ∃ q : α, P q ∧ ∀ j x, (S.cs q)[j]? = some x → W.cell? (a.add (i * S.m + j)) = some x := by
      intro i hi
      obtain ⟨cs', h1, h2⟩ := hx i (by simp only [if_true] at hmm; omega)
      rw [ce] at h1
      obtain ⟨_, hlen, hcell'⟩ := World.cells?_some h1
      obtain ⟨p, rfl, hp⟩ := hcell hlen h2
      refine ⟨p, hp, fun j x hj => ?_⟩
      have hj8 : j < S.m := by
        rcases Nat.lt_or_ge j S.m with h | h
        · exact h
        · rw [List.getElem?_eq_none (by rw [S.len]; exact h)] at hj; cases hj
      have e := hcell' j hj8
      rw [add_add] at e
      rw [e]
      exact hj
    obtain ⟨l, hll, hp⟩ := pick_some S.z each
    refine ⟨some a, len, cap', l, hcs, ⟨(fun h => by cases h), hl, by unfold maxLen at hm; exact hm⟩, hll, fun k hk => ?_, fun k hk => (hp k hk).1⟩
    have h := (hp k (by omega)).2
    refine ⟨a, rfl, Nat.zero_le _, ?_, h⟩
    have h0 := World.block_lt_of_cell? W _ (h 0 _ (List.getElem?_eq_getElem (by rw [S.len]; exact S.pos)))
    rwa [add_block] at h0
theorem rec_cells {fuel : Nat} {a0 a1 a2 a3 : Value} {y : DataW H × List MemPlace} (h : DataW.trod enc Tryd.prog W 0 (fun _ => true) true fuel 38 [a0, a1, a2, a3] = some y) :
    ∃ r : Rd, [a0, a1, a2, a3] = recS.cs r ∧ r.here W W.heap.size := by
  obtain ⟨xs, fu, _, _, _, hxl, hf⟩ := DataW.trod_struct Tryd.underlying38 h
  have t0 : Tryd.prog.cellsOf 3 = 1 := by kernel_rfl
  have t2 : Tryd.prog.cellsOf 34 = 1 := by kernel_rfl
  have hxl4 : xs.length = 4 := hxl
  have h0 : DataW.trod enc Tryd.prog W 0 (fun _ => true) true fu 3 (([a0, a1, a2, a3].drop 0).take (Tryd.prog.cellsOf 3)) = xs[0]? := hf 0 _ rfl
  have h1 : DataW.trod enc Tryd.prog W 0 (fun _ => true) true fu 34 (([a0, a1, a2, a3].drop 1).take (Tryd.prog.cellsOf 34)) = xs[1]? := hf 1 _ rfl
  have h2 : DataW.trod enc Tryd.prog W 0 (fun _ => true) true fu 34 (([a0, a1, a2, a3].drop 2).take (Tryd.prog.cellsOf 34)) = xs[2]? := hf 2 _ rfl
  have h3 : DataW.trod enc Tryd.prog W 0 (fun _ => true) true fu 3 (([a0, a1, a2, a3].drop 3).take (Tryd.prog.cellsOf 3)) = xs[3]? := hf 3 _ rfl
  rw [t0, List.getElem?_eq_getElem (by omega)] at h0 h3
  rw [t2, List.getElem?_eq_getElem (by omega)] at h1 h2
  obtain ⟨kd, ek, _⟩ := DataW.trod_int Tryd.underlying3 h0
  obtain ⟨x, ex, _⟩ := DataW.trod_int Tryd.underlying3 h3
  obtain ⟨A, n, c, k, e1, s1, l1, b1⟩ := bytes_field Tryd.underlying34 Tryd.underlying5 (by kernel_rfl) (v := a1) h1
  obtain ⟨A', n', c', k', e2, s2, l2, b2⟩ := bytes_field Tryd.underlying34 Tryd.underlying5 (by kernel_rfl) (v := a2) h2
  have ek' : a0 = .int .i64 kd := by simpa using ek
  have ex' : a3 = .int .i64 x := by simpa using ex
  subst ek' ex' e1 e2
  exact ⟨⟨kd, x, A, A', n, c, n', c', k, k'⟩, rfl, ⟨s1, l1, b1⟩, ⟨s2, l2, b2⟩⟩
theorem recs_in {base : Nat} {v : Value} {d : DataW H} {ps : List MemPlace} (hval : Value.okWide Tryd.prog W .any base 55 v) (hd : DataW.Trod enc Tryd.prog W 0 (fun _ => true) true 55 v d ps) :
    ∃ A n cap l, v = .slice A n cap ∧ SlIs A n cap ∧ Hid (l.length = n) ∧ Hid (RecsAt W W.heap.size A l) := by
  obtain ⟨A, n, cap, rfl⟩ := okWide_slice Tryd.underlying55 hval
  obtain ⟨fuel, hf⟩ := hd
  obtain ⟨A', n', cap', l, e, h1, h2, h3, h4⟩ := shape_trod recS (fun r => r.here W W.heap.size) Tryd.underlying55 (show _ = 4 by kernel_rfl) (fun {fuel cs y} hlen h2 => by
    match cs, hlen with
    | [v0, v1, v2, v3], _ => exact rec_cells h2) hf
  injection e with e1 e2 e3
  subst e1 e2 e3
  exact ⟨A, n, cap, l, rfl, h1, h2, h3, fun k hk => h4 k (by omega)⟩
theorem flags_in {base : Nat} {v : Value} {d : DataW H} {ps : List MemPlace} (hval : Value.okWide Tryd.prog W .any base 56 v) (hd : DataW.Trod enc Tryd.prog W 0 (fun _ => true) true 56 v d ps) :
    ∃ A n cap l, v = .slice A n cap ∧ SlIs A n cap ∧ Hid (l.length = n) ∧ Hid (Arr boolS W 0 W.heap.size A l) := by
  obtain ⟨A, n, cap, rfl⟩ := okWide_slice Tryd.underlying56 hval
  obtain ⟨fuel, hf⟩ := hd
  rcases Go.Deep.open_bools Tryd.underlying56 Tryd.underlying4 (by kernel_rfl) hf with ⟨hcs, _⟩ | ⟨a, n', cap', B, hcs, _, hl, hm, _, hcell⟩
  · simp [Value.cells] at hcs
    obtain ⟨rfl, rfl, rfl⟩ := hcs
    exact ⟨none, 0, 0, [], rfl, ⟨fun _ => ⟨rfl, rfl⟩, Nat.le_refl _, by omega⟩, rfl, Arr.nil⟩
  · simp [Value.cells] at hcs
    obtain ⟨rfl, rfl, rfl⟩ := hcs
    refine ⟨some a, n, cap, (List.range n).map B, rfl, ⟨(fun h => by cases h), hl, by unfold maxLen at hm; exact hm⟩, by simp [Hid], fun k hk => ?_⟩
    have hkn : k < n := by simpa using hk
    have hcl := hcell k (by omega)
    have e : ((List.range n).map B).getD k false = B k := by
      rw [List.getD_eq_getElem?_getD, List.getElem?_map, List.getElem?_range hkn]; rfl
    refine ⟨a, rfl, Nat.zero_le _, ?_, fun j x hj => ?_⟩
    · have := World.block_lt_of_cell? W _ hcl
      rwa [add_block] at this
    · have hj2 : ([.bool (((List.range n).map B).getD k false)] : List Value)[j]? = some x := hj
      rw [e] at hj2
      match j, hj2 with
      | 0, hj2 =>
        simp at hj2
        subst hj2
        rwa [show k * boolS.m + 0 = k from Nat.mul_one k]
end
end Go.Proofs.YtjmhnbohojdodaaDoor
