/-
  What came in, opened: a superblock by value, its foreign layouts at every index.
-/
import Derived.Test.YtjfgnojmdbfnmaaDoorSmall
import Derived.Test.YtjfgnojmdbfnmaaDoorSbWords
import Derived.Deep.Slices
namespace Go.Proofs.YtjfgnojmdbfnmaaDoor
open Go.ChangeShapes Go.WideShapes Go.ChangeAt Go.RowKit
section
variable {H : Type} {enc : TypeId × Value → H} {W : World}
theorem lay_cells {fuel : Nat} {a0 a1 a2 a3 : Value} {y : DataW H × List MemPlace} (h : DataW.trod enc Tryd.prog W 0 (fun _ => true) true fuel 41 [a0, a1, a2, a3] = some y) :
    ∃ a b c d : Int, a0 = .int .i64 a ∧ a1 = .int .i64 b ∧ a2 = .int .i64 c ∧ a3 = .int .i64 d := by
  obtain ⟨xs, fu, _, _, _, hxl, hf⟩ := DataW.trod_struct Tryd.underlying41 h
  have t0 : Tryd.prog.cellsOf 3 = 1 := by kernel_rfl
  have hxl4 : xs.length = 4 := hxl
  have h0 : DataW.trod enc Tryd.prog W 0 (fun _ => true) true fu 3 (([a0, a1, a2, a3].drop 0).take (Tryd.prog.cellsOf 3)) = xs[0]? := hf 0 _ rfl
  have h1 : DataW.trod enc Tryd.prog W 0 (fun _ => true) true fu 3 (([a0, a1, a2, a3].drop 1).take (Tryd.prog.cellsOf 3)) = xs[1]? := hf 1 _ rfl
  have h2 : DataW.trod enc Tryd.prog W 0 (fun _ => true) true fu 3 (([a0, a1, a2, a3].drop 2).take (Tryd.prog.cellsOf 3)) = xs[2]? := hf 2 _ rfl
  have h3 : DataW.trod enc Tryd.prog W 0 (fun _ => true) true fu 3 (([a0, a1, a2, a3].drop 3).take (Tryd.prog.cellsOf 3)) = xs[3]? := hf 3 _ rfl
  rw [t0, List.getElem?_eq_getElem (by omega)] at h0 h1 h2 h3
  obtain ⟨a, e0, _⟩ := DataW.trod_int Tryd.underlying3 h0
  obtain ⟨b, e1, _⟩ := DataW.trod_int Tryd.underlying3 h1
  obtain ⟨c, e2, _⟩ := DataW.trod_int Tryd.underlying3 h2
  obtain ⟨d, e3, _⟩ := DataW.trod_int Tryd.underlying3 h3
  exact ⟨a, b, c, d, by simpa using e0, by simpa using e1, by simpa using e2, by simpa using e3⟩
theorem pick_lt {n : Nat} {p : Nat → Sb.L → Prop} (h : ∀ i, i < n → ∃ q, p i q) : ∃ l : List Sb.L, l.length = n ∧ ∀ i, i < n → p i (l.getD i Sb.L0) := by
  induction n with
  | zero => exact ⟨[], rfl, fun i hi => absurd hi (by omega)⟩
  | succ n ih =>
    obtain ⟨l, hl, hp⟩ := ih fun i hi => h i (by omega)
    obtain ⟨q, hq⟩ := h n (by omega)
    refine ⟨l ++ [q], by simp [hl], fun i hi => ?_⟩
    rcases Nat.lt_or_ge i n with h2 | h2
    · rw [List.getD_eq_getElem?_getD, List.getElem?_append_left (by omega), ← List.getD_eq_getElem?_getD]
      exact hp i h2
    · obtain rfl : i = n := by omega
      rw [List.getD_eq_getElem?_getD, List.getElem?_append_right (by omega), hl, Nat.sub_self]
      exact hq
theorem lays_field {v : Value} {fuel : Nat} {x : DataW H × List MemPlace} (h : DataW.trod enc Tryd.prog W 0 (fun _ => true) true fuel 42 [v] = some x) : ∃ A n cap l, v = .slice A n cap ∧ SlIs A n cap ∧ l.length = n ∧ Ls W W.heap.size A l := by
  rcases Go.Deep.open_slice Tryd.underlying42 h with ⟨hcs, _⟩ | ⟨a, len, cap, m, nn, D, Pl, hcs, _, hl, hm, hmm, _, hx⟩
  · injection hcs with hcs
    exact ⟨none, 0, 0, [], hcs, ⟨fun _ => ⟨rfl, rfl⟩, Nat.le_refl _, by omega⟩, rfl, Ls.nil⟩
  · injection hcs with hcs
    have ce : Tryd.prog.cellsOf 41 = 4 := by kernel_rfl
    have each : ∀ i, i < len → ∃ q : Sb.L, W.cell? (a.add (i * 4)) = some (.int .i64 q.id) ∧ W.cell? (a.add (i * 4 + 1)) = some (.int .i64 q.ver) ∧ W.cell? (a.add (i * 4 + 2)) = some (.int .i64 q.rs) ∧ W.cell? (a.add (i * 4 + 3)) = some (.int .i64 q.reg) := by
      intro i hi
      obtain ⟨cs', h1, h2⟩ := hx i (by simp only [if_true] at hmm; omega)
      rw [ce] at h1
      obtain ⟨_, hlen, hcell⟩ := World.cells?_some h1
      match cs', hlen with
      | [v0, v1, v2, v3], _ =>
        obtain ⟨p, q, r, s, rfl, rfl, rfl, rfl⟩ := lay_cells h2
        have e0 := hcell 0 (by omega)
        have e1 := hcell 1 (by omega)
        have e2 := hcell 2 (by omega)
        have e3 := hcell 3 (by omega)
        rw [add_add] at e0 e1 e2 e3
        exact ⟨⟨p, q, r, s⟩, by simpa using e0, by simpa using e1, by simpa using e2, by simpa using e3⟩
    obtain ⟨l, hll, hp⟩ := pick_lt each
    refine ⟨some a, len, cap, l, hcs, ⟨(fun h => by cases h), hl, by unfold maxLen at hm; exact hm⟩, hll, fun k hk => ?_⟩
    obtain ⟨h0, h1, h2, h3⟩ := hp k (by omega)
    refine ⟨a, rfl, ?_, h0, h1, h2, h3⟩
    have := World.block_lt_of_cell? W _ h0
    rwa [add_block] at this
theorem super_in {base : Nat} {v : Value} {d : DataW H} {ps : List MemPlace} (hval : Value.okWide Tryd.prog W .any base 44 v) (hd : DataW.Trod enc Tryd.prog W 0 (fun _ => true) true 44 v d ps) :
    ∃ (a0 a1 a2 a3 a4 t0 t1 t2 t3 h0 h1 h2 h3 : Int) (A : Option Addr) (n c : Nat) (l : List Sb.L), Hid (SlIs A n c) ∧ Hid (l.length = n ∧ Ls W W.heap.size A l) ∧ v = .agg #[.int .i64 a0, .int .i64 a1, .int .i64 a2, .int .i64 a3, .int .i64 a4, .int .i64 t0, .int .i64 t1, .int .i64 t2, .int .i64 t3, .int .i64 h0, .int .i64 h1, .int .i64 h2, .int .i64 h3, .slice A n c] := by
  simp only [Value.okWide, Tryd.underlying44] at hval
  obtain ⟨cs, rfl, hsz, _⟩ := hval
  have hc : Tryd.prog.cellsOf 44 = 14 := by kernel_rfl
  have hlen : cs.toList.length = 14 := by rw [Array.length_toList, hsz, hc]
  obtain ⟨fuel, hf⟩ := hd
  have tI : Tryd.prog.cellsOf 3 = 1 := by kernel_rfl
  have tL : Tryd.prog.cellsOf 41 = 4 := by kernel_rfl
  have tS : Tryd.prog.cellsOf 42 = 1 := by kernel_rfl
  obtain ⟨l⟩ := cs
  match l, hlen with
  | [a0, a1, a2, a3, a4, a5, a6, a7, a8, a9, a10, a11, a12, a13], _ =>
    obtain ⟨xs, fu, _, _, _, hxl, hf⟩ := DataW.trod_struct Tryd.underlying44 hf
    have hxl8 : xs.length = 8 := hxl
    have g0 : DataW.trod enc Tryd.prog W 0 (fun _ => true) true fu 3 (([a0, a1, a2, a3, a4, a5, a6, a7, a8, a9, a10, a11, a12, a13].drop 0).take (Tryd.prog.cellsOf 3)) = xs[0]? := hf 0 _ rfl
    have g1 : DataW.trod enc Tryd.prog W 0 (fun _ => true) true fu 3 (([a0, a1, a2, a3, a4, a5, a6, a7, a8, a9, a10, a11, a12, a13].drop 1).take (Tryd.prog.cellsOf 3)) = xs[1]? := hf 1 _ rfl
    have g2 : DataW.trod enc Tryd.prog W 0 (fun _ => true) true fu 3 (([a0, a1, a2, a3, a4, a5, a6, a7, a8, a9, a10, a11, a12, a13].drop 2).take (Tryd.prog.cellsOf 3)) = xs[2]? := hf 2 _ rfl
    have g3 : DataW.trod enc Tryd.prog W 0 (fun _ => true) true fu 3 (([a0, a1, a2, a3, a4, a5, a6, a7, a8, a9, a10, a11, a12, a13].drop 3).take (Tryd.prog.cellsOf 3)) = xs[3]? := hf 3 _ rfl
    have g4 : DataW.trod enc Tryd.prog W 0 (fun _ => true) true fu 3 (([a0, a1, a2, a3, a4, a5, a6, a7, a8, a9, a10, a11, a12, a13].drop 4).take (Tryd.prog.cellsOf 3)) = xs[4]? := hf 4 _ rfl
    have g5 : DataW.trod enc Tryd.prog W 0 (fun _ => true) true fu 41 (([a0, a1, a2, a3, a4, a5, a6, a7, a8, a9, a10, a11, a12, a13].drop 5).take (Tryd.prog.cellsOf 41)) = xs[5]? := hf 5 _ rfl
    have g6 : DataW.trod enc Tryd.prog W 0 (fun _ => true) true fu 41 (([a0, a1, a2, a3, a4, a5, a6, a7, a8, a9, a10, a11, a12, a13].drop 9).take (Tryd.prog.cellsOf 41)) = xs[6]? := hf 6 _ rfl
    have g7 : DataW.trod enc Tryd.prog W 0 (fun _ => true) true fu 42 (([a0, a1, a2, a3, a4, a5, a6, a7, a8, a9, a10, a11, a12, a13].drop 13).take (Tryd.prog.cellsOf 42)) = xs[7]? := hf 7 _ rfl
    rw [tI, List.getElem?_eq_getElem (by omega)] at g0 g1 g2 g3 g4
    rw [tL, List.getElem?_eq_getElem (by omega)] at g5 g6
    rw [tS, List.getElem?_eq_getElem (by omega)] at g7
    obtain ⟨b0, e0, _⟩ := DataW.trod_int Tryd.underlying3 g0
    obtain ⟨b1, e1, _⟩ := DataW.trod_int Tryd.underlying3 g1
    obtain ⟨b2, e2, _⟩ := DataW.trod_int Tryd.underlying3 g2
    obtain ⟨b3, e3, _⟩ := DataW.trod_int Tryd.underlying3 g3
    obtain ⟨b4, e4, _⟩ := DataW.trod_int Tryd.underlying3 g4
    obtain ⟨t0, t1, t2, t3, rfl, rfl, rfl, rfl⟩ := lay_cells (a0 := a5) (a1 := a6) (a2 := a7) (a3 := a8) g5
    obtain ⟨h0, h1, h2, h3, rfl, rfl, rfl, rfl⟩ := lay_cells (a0 := a9) (a1 := a10) (a2 := a11) (a3 := a12) g6
    obtain ⟨A, n, c, l, rfl, hs, hl, hb⟩ := lays_field (v := a13) g7
    have e0' : a0 = .int .i64 b0 := by simpa using e0
    have e1' : a1 = .int .i64 b1 := by simpa using e1
    have e2' : a2 = .int .i64 b2 := by simpa using e2
    have e3' : a3 = .int .i64 b3 := by simpa using e3
    have e4' : a4 = .int .i64 b4 := by simpa using e4
    subst e0' e1' e2' e3' e4'
    exact ⟨b0, b1, b2, b3, b4, t0, t1, t2, t3, h0, h1, h2, h3, A, n, c, l, hs, ⟨hl, hb⟩, rfl⟩
end
end Go.Proofs.YtjfgnojmdbfnmaaDoor
