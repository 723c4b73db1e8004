/-
  What came in, opened: a slice of plan records, the numbers of a crash.
-/
import Derived.Test.YtpidbakjpfngnaaDoorLgWords
import Derived.Test.YtpidbakjpfngnaaDoorPlRows
import Derived.Deep.Slices
set_option maxRecDepth 100000
namespace Go.Proofs.YtpidbakjpfngnaaDoor
open Go.ChangeShapes Go.WideShapes Go.ChangeAt Go.RowKit
section
variable {H : Type} {enc : TypeId × Value → H} {W : World}
theorem pick_rec {n : Nat} {p : Nat → Pl.P → Prop} (h : ∀ i, i < n → ∃ q, p i q) : ∃ l : List Pl.P, l.length = n ∧ ∀ i, i < n → p i (l.getD i P0) := by
  induction n with
  | zero => exact ⟨[], rfl, fun i hi => absurd hi (by omega)⟩
  | succ n ih =>
    obtain ⟨l, hl, hp⟩ := ih fun i hi => h i (by omega)
    obtain ⟨q, hq⟩ := h n (by omega)
    refine ⟨l ++ [q], by simp [hl], fun i hi => ?_⟩
    rcases Nat.lt_or_ge i n with h2 | h2
    · rw [List.getD_eq_getElem?_getD, List.getElem?_append_left (by omega), ← List.getD_eq_getElem?_getD]
      exact hp i h2
    · obtain rfl : i = n := by omega
      rw [List.getD_eq_getElem?_getD, List.getElem?_append_right (by omega), hl, Nat.sub_self]
      exact hq
theorem plans_in {base : Nat} {v : Value} {d : DataW H} {ps : List MemPlace} (hval : Value.okWide Tryd.prog W .any base 25 v) (hd : DataW.Trod enc Tryd.prog W 0 (fun _ => true) true 25 v d ps) :
    ∃ A n cap l, v = .slice A n cap ∧ SlIs A n cap ∧ Hid (l.length = n) ∧ Hid (Pls W 0 W.heap.size A l) := by
  obtain ⟨A, n, cap, rfl⟩ := okWide_slice Tryd.underlying25 hval
  obtain ⟨fuel, hf⟩ := hd
  rcases Go.Deep.open_slice Tryd.underlying25 hf with ⟨hcs, _⟩ | ⟨a, len, cap', m, q, D, PL, hcs, _, hl, hm, hmm, _, hx⟩
  · simp [Value.cells] at hcs
    obtain ⟨rfl, rfl, rfl⟩ := hcs
    exact ⟨none, 0, 0, [], rfl, ⟨fun _ => ⟨rfl, rfl⟩, Nat.le_refl _, by omega⟩, rfl, Pls.nil⟩
  · simp [Value.cells] at hcs
    obtain ⟨rfl, rfl, rfl⟩ := hcs
    have ce : Tryd.prog.cellsOf 34 = 8 := by kernel_rfl
    have each : ∀ i, i < n → ∃ q : Pl.P, ∀ j x, (pcs q)[j]? = some x → W.cell? (a.add (i * 8 + j)) = some x := by
      intro i hi
      obtain ⟨cs', h1, h2⟩ := hx i (by simp only [if_true] at hmm; omega)
      rw [ce] at h1
      obtain ⟨_, hlen, hcell⟩ := World.cells?_some h1
      match cs', hlen with
      | [v0, v1, v2, v3, v4, v5, v6, v7], _ =>
        obtain ⟨x0, x1, x2, x3, x4, x5, x6, x7, rfl, rfl, rfl, rfl, rfl, rfl, rfl, rfl⟩ := plan_cells h2
        refine ⟨⟨x0, x1, x2, x3, ⟨x4, x5, x6, x7⟩⟩, fun j x hj => ?_⟩
        have hj8 : j < 8 := by
          rcases Nat.lt_or_ge j 8 with h | h
          · exact h
          · rw [List.getElem?_eq_none (by exact h)] at hj; cases hj
        have e := hcell j hj8
        rw [add_add] at e
        rw [e]
        exact hj
    obtain ⟨l, hll, hp⟩ := pick_rec each
    refine ⟨some a, n, cap, l, rfl, ⟨(fun h => by cases h), hl, by unfold maxLen at hm; exact hm⟩, hll, fun k hk => ?_⟩
    have h := hp k (by omega)
    refine ⟨a, rfl, Nat.zero_le _, ?_, h⟩
    have h0 := World.block_lt_of_cell? W _ (h 0 _ rfl)
    rwa [add_block] at h0
theorem crash_in {base : Nat} {v : Value} {d : DataW H} {ps : List MemPlace} (hval : Value.okWide Tryd.prog W .any base 45 v) (hd : DataW.Trod enc Tryd.prog W 0 (fun _ => true) true 45 v d ps) :
    ∃ (a b c : Int) (y : Bool), v = .agg #[.int .i64 a, .int .i64 b, .int .i64 c, .bool y] := by
  simp only [Value.okWide, Tryd.underlying45] at hval
  obtain ⟨cs, rfl, hsz, _⟩ := hval
  have hk : Tryd.prog.cellsOf 45 = 4 := by kernel_rfl
  have hlen : cs.toList.length = 4 := by rw [Array.length_toList, hsz, hk]
  obtain ⟨fuel, hf⟩ := hd
  obtain ⟨xs, fu, _, _, _, hxl, hf⟩ := DataW.trod_struct Tryd.underlying45 hf
  have tI : Tryd.prog.cellsOf 3 = 1 := by kernel_rfl
  have tB : Tryd.prog.cellsOf 4 = 1 := by kernel_rfl
  have hxl4 : xs.length = 4 := hxl
  obtain ⟨l⟩ := cs
  match l, hlen with
  | [a0, a1, a2, a3], _ =>
    have h0 : DataW.trod enc Tryd.prog W 0 (fun _ => true) true fu 3 (([a0, a1, a2, a3].drop 0).take (Tryd.prog.cellsOf 3)) = xs[0]? := hf 0 _ rfl
    have h1 : DataW.trod enc Tryd.prog W 0 (fun _ => true) true fu 3 (([a0, a1, a2, a3].drop 1).take (Tryd.prog.cellsOf 3)) = xs[1]? := hf 1 _ rfl
    have h2 : DataW.trod enc Tryd.prog W 0 (fun _ => true) true fu 3 (([a0, a1, a2, a3].drop 2).take (Tryd.prog.cellsOf 3)) = xs[2]? := hf 2 _ rfl
    have h3 : DataW.trod enc Tryd.prog W 0 (fun _ => true) true fu 4 (([a0, a1, a2, a3].drop 3).take (Tryd.prog.cellsOf 4)) = xs[3]? := hf 3 _ rfl
    rw [tI, List.getElem?_eq_getElem (by omega)] at h0 h1 h2
    rw [tB, List.getElem?_eq_getElem (by omega)] at h3
    obtain ⟨a, e0, _⟩ := DataW.trod_int Tryd.underlying3 h0
    obtain ⟨b, e1, _⟩ := DataW.trod_int Tryd.underlying3 h1
    obtain ⟨c, e2, _⟩ := DataW.trod_int Tryd.underlying3 h2
    obtain ⟨y, e3, _⟩ := DataW.trod_bool Tryd.underlying4 h3
    have e0' : a0 = .int .i64 a := by simpa using e0
    have e1' : a1 = .int .i64 b := by simpa using e1
    have e2' : a2 = .int .i64 c := by simpa using e2
    have e3' : a3 = .bool y := by simpa using e3
    subst e0' e1' e2' e3'
    exact ⟨a, b, c, y, rfl⟩
end
end Go.Proofs.YtpidbakjpfngnaaDoor
