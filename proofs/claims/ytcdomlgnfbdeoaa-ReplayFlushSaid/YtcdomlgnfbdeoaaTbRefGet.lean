/-
  The reference's list of pairs: Get, an entry put into a row, parts of a row appended.
-/
import Derived.Test.YtcdomlgnfbdeoaaTbRef
import Derived.Test.YtcdomlgnfbdeoaaSetAt
set_option maxRecDepth 100000
namespace Go.Proofs.Ytcdomlgnfbdeoaa
open Go.RowKit
theorem RT.open_ {R : Nat → Prop} {w : World} {m : Nat} {L : List Tb.Pr} (h : RT R w m L) : ∃ A c, R m ∧ w.heap[m]? = some (.cells #[.slice A L.length c] 57 (0, 0)) ∧ SRow (fun k => R k ∧ k ≠ m) 38 6 w (.slice A L.length c) L.length (prS.flat L) ∧ SlIs A L.length c ∧ Arr prS w 0 w.heap.size A L ∧ (A = none ∨ ∃ g, A = some ⟨g, 0, none⟩ ∧ g < w.heap.size ∧ R g ∧ g ≠ m) := by
  obtain ⟨v, h1, h2, h3⟩ := h
  have h4 : ARow prS 38 w 0 v L.length L := h3.1
  obtain ⟨A, c, rfl, h5, h6⟩ := h4.open_
  refine ⟨A, c, h1, h2, h3, h5, h6, ?_⟩
  rcases h3.1.2 with ⟨e, -⟩ | ⟨g, cap, cur, e, -, hg, -⟩
  · injection e with e1; exact .inl e1
  · injection e with e1
    exact .inr ⟨g, e1, (Array.getElem?_eq_some_iff.1 hg).1, h3.2 g (by rw [e1]; rfl)⟩
theorem flat_entry (e : Tb.En) : ∀ (L : List Tb.Pr) (i : Nat), i < L.length →
    (((((prS.flat L).set (i * 6 + 1) (.int .i64 e.seq)).set (i * 6 + 2) (.int .i64 e.off)).set (i * 6 + 3) (.int .i64 e.len)).set (i * 6 + 4) (.int .i64 e.exp)).set (i * 6 + 5) (.bool e.hit) = prS.flat (L.set i ((Tb.gp L i).1, e))
  | [], _, h => absurd h (Nat.not_lt_zero _)
  | x :: t, 0, _ => rfl
  | x :: t, i + 1, h => by
    have ih := flat_entry e t i (by simpa using h)
    have e : ∀ j, (i + 1) * 6 + j = i * 6 + j + 1 + 1 + 1 + 1 + 1 + 1 := fun j => by omega
    show ((((((prc x) ++ prS.flat t).set _ _).set _ _).set _ _).set _ _).set _ _ = prc x ++ prS.flat (t.set i ((Tb.gp t i).1, _))
    rw [← ih, e 1, e 2, e 3, e 4, e 5]
    rfl
/-- An entry put into a row. -/
theorem row_entry {S : Nat → Prop} {w : World} {g n c : Nat} {L : List Tb.Pr} (h : SRow S 38 6 w (.slice (some ⟨g, 0, none⟩) n c) n (prS.flat L)) (i : Nat) (hi : i < L.length) (e0 e1 e2 e3 : Int) (e4 : Bool) :
    SRow S 38 6 (((((w.setCell ⟨g, i * 6 + 1, none⟩ (.int .i64 e0)).setCell ⟨g, i * 6 + 2, none⟩ (.int .i64 e1)).setCell ⟨g, i * 6 + 3, none⟩ (.int .i64 e2)).setCell ⟨g, i * 6 + 4, none⟩ (.int .i64 e3)).setCell ⟨g, i * 6 + 5, none⟩ (.bool e4)) (.slice (some ⟨g, 0, none⟩) n c) n (prS.flat (L.set i ((Tb.gp L i).1, ⟨e0, e1, e2, e3, e4⟩))) := by
  have hlen := h.len (Sh := prS)
  refine ⟨⟨by rw [prS.flat_length, List.length_set, hlen]; rfl, ?_⟩, h.2⟩
  rcases h.1.2 with ⟨e, -⟩ | ⟨g', cap, cur, e, hb, hg, hnc, hcm, hsz, htk⟩
  · cases e
  · have e1 : g = g' := by injection e with e; injection e with e; injection e with e
    subst e1
    have hg : w.heap[g]? = some (.cells cur.toList.toArray 38 (0, 0)) := by rw [Array.toArray_toList]; exact hg
    have key := flat_entry ⟨e0, e1, e2, e3, e4⟩ L i hi
    simp only at key
    refine .inr ⟨g, cap, _, e, hb, set_at (set_at (set_at (set_at (set_at hg _ _) _ _) _ _) _ _) _ _, hnc, hcm, by simp [hsz], ?_⟩
    rw [List.toList_toArray, List.take_set, List.take_set, List.take_set, List.take_set, List.take_set, htk, key]
theorem row_frozen {S : Nat → Prop} {w : World} {g n c : Nat} {xs : List Value} (h : SRow S 38 6 w (.slice (some ⟨g, 0, none⟩) n c) n xs) (o : Nat) : w.frozen? ⟨g, o, none⟩ = false := by
  rcases h.1.2 with ⟨e, -⟩ | ⟨g', cap, cur, e, hb, hg, -⟩
  · cases e
  · have e1 : g = g' := by injection e with e; injection e with e; injection e with e
    subst e1
    exact frozen_of_row w g _ _ _ hg
/-- The cells of a row's first pairs, and of those behind. -/
theorem row_front {S : Nat → Prop} {w : World} {A : Option Addr} {n c : Nat} {L : List Tb.Pr} (h : SRow S 38 6 w (.slice A n c) n (prS.flat L)) (i : Nat) : ∀ ad, A = some ad → ∀ j u, (prS.flat (L.take i))[j]? = some u → w.cell? (ad.add j) = some u := fun ad e j u hu => by
  refine h.cells ad e j u ?_
  rw [← List.take_append_drop i L, prS.flat_append, List.getElem?_append_left (List.getElem?_eq_some_iff.1 hu).1]
  exact hu
theorem row_back {S : Nat → Prop} {w : World} {g n c : Nat} {L : List Tb.Pr} (h : SRow S 38 6 w (.slice (some ⟨g, 0, none⟩) n c) n (prS.flat L)) (i : Nat) (hi : i ≤ L.length) : ∀ ad, some (⟨g, i * 6, none⟩ : Addr) = some ad → ∀ j u, (prS.flat (L.drop i))[j]? = some u → w.cell? (ad.add j) = some u := fun ad e j u hu => by
  injection e with e
  subst e
  have hl : (prS.flat (L.take i)).length = i * 6 := by rw [prS.flat_length, List.length_take, Nat.min_eq_left hi]; rfl
  have := h.cells ⟨g, 0, none⟩ rfl (i * 6 + j) u (by rw [← List.take_append_drop i L, prS.flat_append, List.getElem?_append_right (by omega), hl, Nat.add_sub_cancel_left]; exact hu)
  rw [arr_flat, Nat.zero_add] at this
  rw [arr_flat]
  exact this
/-- What the reference's Get answers. -/
def RGet (L : List Tb.Pr) (k : ByteArray) (w : World) (e : Ending) (w' : World) : Prop :=
  ∃ a0 a1 a2 a3 a4 y, e = .returned (.tuple #[.agg #[.int .i64 a0, .int .i64 a1, .int .i64 a2, .int .i64 a3, .bool a4], .bool y]) ∧ ((y = true ∧ (k, Tb.En.mk a0 a1 a2 a3 a4) ∈ L) ∨ (y = false ∧ Tb.En.mk a0 a1 a2 a3 a4 = Tb.En0 ∧ ∀ x, (k, x) ∉ L)) ∧ Below w.heap.size w w'
end Go.Proofs.Ytcdomlgnfbdeoaa
