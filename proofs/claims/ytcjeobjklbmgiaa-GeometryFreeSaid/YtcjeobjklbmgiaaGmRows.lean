/-
  What came in, opened: two layouts and two slots by value, regions in a slice.
-/
import Derived.Test.YtcjeobjklbmgiaaPlRows
import Derived.Test.YtcjeobjklbmgiaaGmTaken
import Derived.Deep.Slices
set_option maxRecDepth 100000
namespace Go.Proofs.Ytcjeobjklbmgiaa
open Go.ChangeShapes Go.WideShapes Go.ChangeAt Go.RowKit
section
variable {H : Type} {enc : TypeId × Value → H} {W : World}
theorem two_cells {fuel : Nat} {a0 a1 a2 a3 a4 a5 a6 a7 a8 a9 : Value} {y : DataW H × List MemPlace} (h : DataW.trod enc Try.prog W 0 (fun _ => true) true fuel 33 [a0, a1, a2, a3, a4, a5, a6, a7, a8, a9] = some y) :
    ∃ x0 x1 x2 x3 x4 x5 x6 x7 x8 x9 : Int, a0 = .int .i64 x0 ∧ a1 = .int .i64 x1 ∧ a2 = .int .i64 x2 ∧ a3 = .int .i64 x3 ∧ a4 = .int .i64 x4 ∧ a5 = .int .i64 x5 ∧ a6 = .int .i64 x6 ∧ a7 = .int .i64 x7 ∧ a8 = .int .i64 x8 ∧ a9 = .int .i64 x9 := by
  obtain ⟨xs, fu, _, _, _, hxl, hf⟩ := DataW.trod_struct Try.underlying33 h
  have tI : Try.prog.cellsOf 3 = 1 := by kernel_rfl
  have tL : Try.prog.cellsOf 23 = 4 := by kernel_rfl
  have hxlk : xs.length = 4 := hxl
  have h0 : DataW.trod enc Try.prog W 0 (fun _ => true) true fu 23 (([a0, a1, a2, a3, a4, a5, a6, a7, a8, a9].drop 0).take (Try.prog.cellsOf 23)) = xs[0]? := hf 0 _ rfl
  rw [tL, List.getElem?_eq_getElem (by omega)] at h0
  have h1 : DataW.trod enc Try.prog W 0 (fun _ => true) true fu 23 (([a0, a1, a2, a3, a4, a5, a6, a7, a8, a9].drop 4).take (Try.prog.cellsOf 23)) = xs[1]? := hf 1 _ rfl
  rw [tL, List.getElem?_eq_getElem (by omega)] at h1
  have h2 : DataW.trod enc Try.prog W 0 (fun _ => true) true fu 3 (([a0, a1, a2, a3, a4, a5, a6, a7, a8, a9].drop 8).take (Try.prog.cellsOf 3)) = xs[2]? := hf 2 _ rfl
  rw [tI, List.getElem?_eq_getElem (by omega)] at h2
  have h3 : DataW.trod enc Try.prog W 0 (fun _ => true) true fu 3 (([a0, a1, a2, a3, a4, a5, a6, a7, a8, a9].drop 9).take (Try.prog.cellsOf 3)) = xs[3]? := hf 3 _ rfl
  rw [tI, List.getElem?_eq_getElem (by omega)] at h3
  obtain ⟨b0, b1, b2, b3, q0, q1, q2, q3⟩ := layc_cells (a0 := a0) (a1 := a1) (a2 := a2) (a3 := a3) h0
  obtain ⟨b4, b5, b6, b7, q4, q5, q6, q7⟩ := layc_cells (a0 := a4) (a1 := a5) (a2 := a6) (a3 := a7) h1
  obtain ⟨b8, e2, _⟩ := DataW.trod_int Try.underlying3 h2
  obtain ⟨b9, e3, _⟩ := DataW.trod_int Try.underlying3 h3
  exact ⟨b0, b1, b2, b3, b4, b5, b6, b7, b8, b9, q0, q1, q2, q3, q4, q5, q6, q7, by simpa using e2, by simpa using e3⟩
theorem two_in {base : Nat} {v : Value} {d : DataW H} {ps : List MemPlace} (hval : Value.okWide Try.prog W .any base 33 v) (hd : DataW.Trod enc Try.prog W 0 (fun _ => true) true 33 v d ps) :
    ∃ x0 x1 x2 x3 x4 x5 x6 x7 x8 x9 : Int, v = .agg #[.int .i64 x0, .int .i64 x1, .int .i64 x2, .int .i64 x3, .int .i64 x4, .int .i64 x5, .int .i64 x6, .int .i64 x7, .int .i64 x8, .int .i64 x9] := by
  simp only [Value.okWide, Try.underlying33] at hval
  obtain ⟨cs, rfl, hsz, _⟩ := hval
  have hk : Try.prog.cellsOf 33 = 10 := by kernel_rfl
  have hlen : cs.toList.length = 10 := by rw [Array.length_toList, hsz, hk]
  obtain ⟨fuel, hf⟩ := hd
  obtain ⟨l⟩ := cs
  match l, hlen with
  | [a0, a1, a2, a3, a4, a5, a6, a7, a8, a9], _ =>
    obtain ⟨x0, x1, x2, x3, x4, x5, x6, x7, x8, x9, rfl, rfl, rfl, rfl, rfl, rfl, rfl, rfl, rfl, rfl⟩ := two_cells hf
    exact ⟨x0, x1, x2, x3, x4, x5, x6, x7, x8, x9, rfl⟩
theorem hdr_cells {fuel : Nat} {a0 a1 a2 a3 a4 a5 : Value} {y : DataW H × List MemPlace} (h : DataW.trod enc Try.prog W 0 (fun _ => true) true fuel 41 [a0, a1, a2, a3, a4, a5] = some y) :
    ∃ x0 x1 x2 x3 x4 x5 : Int, a0 = .int .i64 x0 ∧ a1 = .int .i64 x1 ∧ a2 = .int .i64 x2 ∧ a3 = .int .i64 x3 ∧ a4 = .int .i64 x4 ∧ a5 = .int .i64 x5 := by
  obtain ⟨xs, fu, _, _, _, hxl, hf⟩ := DataW.trod_struct Try.underlying41 h
  have tI : Try.prog.cellsOf 3 = 1 := by kernel_rfl
  have hxlk : xs.length = 6 := hxl
  have h0 : DataW.trod enc Try.prog W 0 (fun _ => true) true fu 3 (([a0, a1, a2, a3, a4, a5].drop 0).take (Try.prog.cellsOf 3)) = xs[0]? := hf 0 _ rfl
  rw [tI, List.getElem?_eq_getElem (by omega)] at h0
  have h1 : DataW.trod enc Try.prog W 0 (fun _ => true) true fu 3 (([a0, a1, a2, a3, a4, a5].drop 1).take (Try.prog.cellsOf 3)) = xs[1]? := hf 1 _ rfl
  rw [tI, List.getElem?_eq_getElem (by omega)] at h1
  have h2 : DataW.trod enc Try.prog W 0 (fun _ => true) true fu 3 (([a0, a1, a2, a3, a4, a5].drop 2).take (Try.prog.cellsOf 3)) = xs[2]? := hf 2 _ rfl
  rw [tI, List.getElem?_eq_getElem (by omega)] at h2
  have h3 : DataW.trod enc Try.prog W 0 (fun _ => true) true fu 3 (([a0, a1, a2, a3, a4, a5].drop 3).take (Try.prog.cellsOf 3)) = xs[3]? := hf 3 _ rfl
  rw [tI, List.getElem?_eq_getElem (by omega)] at h3
  have h4 : DataW.trod enc Try.prog W 0 (fun _ => true) true fu 3 (([a0, a1, a2, a3, a4, a5].drop 4).take (Try.prog.cellsOf 3)) = xs[4]? := hf 4 _ rfl
  rw [tI, List.getElem?_eq_getElem (by omega)] at h4
  have h5 : DataW.trod enc Try.prog W 0 (fun _ => true) true fu 3 (([a0, a1, a2, a3, a4, a5].drop 5).take (Try.prog.cellsOf 3)) = xs[5]? := hf 5 _ rfl
  rw [tI, List.getElem?_eq_getElem (by omega)] at h5
  obtain ⟨b0, e0, _⟩ := DataW.trod_int Try.underlying3 h0
  obtain ⟨b1, e1, _⟩ := DataW.trod_int Try.underlying3 h1
  obtain ⟨b2, e2, _⟩ := DataW.trod_int Try.underlying3 h2
  obtain ⟨b3, e3, _⟩ := DataW.trod_int Try.underlying3 h3
  obtain ⟨b4, e4, _⟩ := DataW.trod_int Try.underlying3 h4
  obtain ⟨b5, e5, _⟩ := DataW.trod_int Try.underlying3 h5
  exact ⟨b0, b1, b2, b3, b4, b5, by simpa using e0, by simpa using e1, by simpa using e2, by simpa using e3, by simpa using e4, by simpa using e5⟩
theorem region_cells {fuel : Nat} {a0 a1 a2 a3 a4 a5 a6 a7 a8 a9 : Value} {y : DataW H × List MemPlace} (h : DataW.trod enc Try.prog W 0 (fun _ => true) true fuel 43 [a0, a1, a2, a3, a4, a5, a6, a7, a8, a9] = some y) :
    ∃ x0 x1 x2 x3 x4 x5 x6 x7 x8 x9 : Int, a0 = .int .i64 x0 ∧ a1 = .int .i64 x1 ∧ a2 = .int .i64 x2 ∧ a3 = .int .i64 x3 ∧ a4 = .int .i64 x4 ∧ a5 = .int .i64 x5 ∧ a6 = .int .i64 x6 ∧ a7 = .int .i64 x7 ∧ a8 = .int .i64 x8 ∧ a9 = .int .i64 x9 := by
  obtain ⟨xs, fu, _, _, _, hxl, hf⟩ := DataW.trod_struct Try.underlying43 h
  have tH : Try.prog.cellsOf 41 = 6 := by kernel_rfl
  have tL : Try.prog.cellsOf 23 = 4 := by kernel_rfl
  have hxlk : xs.length = 2 := hxl
  have h0 : DataW.trod enc Try.prog W 0 (fun _ => true) true fu 41 (([a0, a1, a2, a3, a4, a5, a6, a7, a8, a9].drop 0).take (Try.prog.cellsOf 41)) = xs[0]? := hf 0 _ rfl
  rw [tH, List.getElem?_eq_getElem (by omega)] at h0
  have h1 : DataW.trod enc Try.prog W 0 (fun _ => true) true fu 23 (([a0, a1, a2, a3, a4, a5, a6, a7, a8, a9].drop 6).take (Try.prog.cellsOf 23)) = xs[1]? := hf 1 _ rfl
  rw [tL, List.getElem?_eq_getElem (by omega)] at h1
  obtain ⟨b0, b1, b2, b3, b4, b5, q0, q1, q2, q3, q4, q5⟩ := hdr_cells (a0 := a0) (a1 := a1) (a2 := a2) (a3 := a3) (a4 := a4) (a5 := a5) h0
  obtain ⟨b6, b7, b8, b9, q6, q7, q8, q9⟩ := layc_cells (a0 := a6) (a1 := a7) (a2 := a8) (a3 := a9) h1
  exact ⟨b0, b1, b2, b3, b4, b5, b6, b7, b8, b9, q0, q1, q2, q3, q4, q5, q6, q7, q8, q9⟩
theorem pick_shape {α : Type} (z : α) {n : Nat} {p : Nat → α → Prop} (h : ∀ i, i < n → ∃ q, p i q) : ∃ l : List α, l.length = n ∧ ∀ i, i < n → p i (l.getD i z) := by
  induction n with
  | zero => exact ⟨[], rfl, fun i hi => absurd hi (by omega)⟩
  | succ n ih =>
    obtain ⟨l, hl, hp⟩ := ih fun i hi => h i (by omega)
    obtain ⟨q, hq⟩ := h n (by omega)
    refine ⟨l ++ [q], by simp [hl], fun i hi => ?_⟩
    rcases Nat.lt_or_ge i n with h2 | h2
    · rw [List.getD_eq_getElem?_getD, List.getElem?_append_left (by omega), ← List.getD_eq_getElem?_getD]
      exact hp i h2
    · obtain rfl : i = n := by omega
      rw [List.getD_eq_getElem?_getD, List.getElem?_append_right (by omega), hl, Nat.sub_self]
      exact hq
/-- A slice of things of any shape, opened. -/
theorem shape_in {α : Type} (S : Shape α) {tS e : TypeId} (hu : Try.prog.underlying tS = some (.slice e)) (ce : Try.prog.cellsOf e = S.m) (hcell : ∀ {fuel : Nat} {cs : List Value} {y : DataW H × List MemPlace}, cs.length = S.m → DataW.trod enc Try.prog W 0 (fun _ => true) true fuel e cs = some y → ∃ a, cs = S.cs a)
    {base : Nat} {v : Value} {d : DataW H} {ps : List MemPlace} (hval : Value.okWide Try.prog W .any base tS v) (hd : DataW.Trod enc Try.prog W 0 (fun _ => true) true tS v d ps) :
    ∃ A n cap l, v = .slice A n cap ∧ SlIs A n cap ∧ Hid (l.length = n) ∧ Hid (Arr S W 0 W.heap.size A l) := by
  obtain ⟨A, n, cap, rfl⟩ := okWide_slice hu hval
  obtain ⟨fuel, hf⟩ := hd
  rcases Go.Deep.open_slice hu hf with ⟨hcs, _⟩ | ⟨a, len, cap', m, q, D, PL, hcs, _, hl, hm, hmm, _, hx⟩
  · simp [Value.cells] at hcs
    obtain ⟨rfl, rfl, rfl⟩ := hcs
    exact ⟨none, 0, 0, [], rfl, ⟨fun _ => ⟨rfl, rfl⟩, Nat.le_refl _, by omega⟩, rfl, Arr.nil⟩
  · simp [Value.cells] at hcs
    obtain ⟨rfl, rfl, rfl⟩ := hcs
    have each : ∀ i, i < n → ∃ q : α, ∀ j x, (S.cs q)[j]? = some x → W.cell? (a.add (i * S.m + j)) = some x := by
      intro i hi
      obtain ⟨cs', h1, h2⟩ := hx i (by simp only [if_true] at hmm; omega)
      rw [ce] at h1
      obtain ⟨_, hlen, hcell'⟩ := World.cells?_some h1
      obtain ⟨p, rfl⟩ := hcell hlen h2
      refine ⟨p, fun j x hj => ?_⟩
      have hj8 : j < S.m := by
        rcases Nat.lt_or_ge j S.m with h | h
        · exact h
        · rw [List.getElem?_eq_none (by rw [S.len]; exact h)] at hj; cases hj
      have e := hcell' j hj8
      rw [add_add] at e
      rw [e]
      exact hj
    obtain ⟨l, hll, hp⟩ := pick_shape S.z each
    refine ⟨some a, n, cap, l, rfl, ⟨(fun h => by cases h), hl, by unfold maxLen at hm; exact hm⟩, hll, fun k hk => ?_⟩
    have h := hp k (by omega)
    refine ⟨a, rfl, Nat.zero_le _, ?_, h⟩
    have h0 := World.block_lt_of_cell? W _ (h 0 _ (List.getElem?_eq_getElem (by rw [S.len]; exact S.pos)))
    rwa [add_block] at h0
theorem regs_in {base : Nat} {v : Value} {d : DataW H} {ps : List MemPlace} (hval : Value.okWide Try.prog W .any base 36 v) (hd : DataW.Trod enc Try.prog W 0 (fun _ => true) true 36 v d ps) :
    ∃ A n cap l, v = .slice A n cap ∧ SlIs A n cap ∧ Hid (l.length = n) ∧ Hid (Arr regS W 0 W.heap.size A l) := by
  refine shape_in regS Try.underlying36 (show _ = 10 by kernel_rfl) (fun {fuel cs y} hlen h2 => ?_) hval hd
  match cs, hlen with
  | [v0, v1, v2, v3, v4, v5, v6, v7, v8, v9], _ =>
    obtain ⟨x0, x1, x2, x3, x4, x5, x6, x7, x8, x9, rfl, rfl, rfl, rfl, rfl, rfl, rfl, rfl, rfl, rfl⟩ := region_cells h2
    exact ⟨⟨x0, x1, x2, x3, x4, x5, ⟨x6, x7, x8, x9⟩⟩, rfl⟩
end
end Go.Proofs.Ytcjeobjklbmgiaa
