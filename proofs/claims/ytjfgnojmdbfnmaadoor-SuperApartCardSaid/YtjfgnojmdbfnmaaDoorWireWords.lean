/-
  Words on a reader of bytes: its block, the bytes that are left, what other blocks keep.
-/
import Derived.Test.YtjfgnojmdbfnmaaDoorRows
import Derived.Test.YtjfgnojmdbfnmaaDoorWords
import Derived.Test.YtjfgnojmdbfnmaaDoorWireMath
import Derived.Deep.AppendLies
namespace Go.Proofs.YtjfgnojmdbfnmaaDoor
open Go.RowKit

theorem add_add (a : Addr) (i j : Nat) : (a.add i).add j = a.add (i + j) := by
  unfold Addr.add
  by_cases hi : i = 0 <;> by_cases hj : j = 0 <;> simp [hi, hj, Nat.add_assoc]
/-- Bytes read in blocks from lo on, below hi. -/
def BsIn (w : World) (lo hi : Nat) (A : Option Addr) (l : List Nat) : Prop := ∀ k, k < l.length → l.getD k 0 < 256 ∧ ∃ ad, A = some ad ∧ lo ≤ ad.block ∧ ad.block < hi ∧ w.cell? (ad.add k) = some (.int .u8 ((l.getD k 0 : Nat) : Int))
section
variable {w w' : World} {lo hi : Nat} {A : Option Addr} {l : List Nat}
theorem BsIn.bs (h : BsIn w lo hi A l) : Bs w hi A l := fun k hk => by
  obtain ⟨h1, ad, h2, _, h3, h4⟩ := h k hk
  exact ⟨h1, ad, h2, h3, h4⟩
theorem Bs.bsIn (h : Bs w hi A l) : BsIn w 0 hi A l := fun k hk => by
  obtain ⟨h1, ad, h2, h3, h4⟩ := h k hk
  exact ⟨h1, ad, h2, Nat.zero_le _, h3, h4⟩
theorem BsIn.nil : BsIn w lo hi A [] := fun k hk => absurd hk (by simp)
theorem BsIn.keep (h : BsIn w lo hi A l) (hb : ∀ b, lo ≤ b → b < hi → w'.heap[b]? = w.heap[b]?) : BsIn w' lo hi A l := fun k hk => by
  obtain ⟨h1, ad, h2, h3, h5, h4⟩ := h k hk
  exact ⟨h1, ad, h2, h3, h5, (World.cell?_of_block (hb _ (by rw [add_block]; exact h3) (by rw [add_block]; exact h5))).trans h4⟩
theorem BsIn.wider {lo' hi' : Nat} (h : BsIn w lo hi A l) (h1 : lo' ≤ lo) (h2 : hi ≤ hi') : BsIn w lo' hi' A l := fun k hk => by
  obtain ⟨a, ad, b, c, d, e⟩ := h k hk
  exact ⟨a, ad, b, by omega, by omega, e⟩
theorem getD_take (l : List Nat) (n k : Nat) (hk : k < n) : (l.take n).getD k 0 = l.getD k 0 := by
  rw [List.getD_eq_getElem?_getD, List.getD_eq_getElem?_getD, List.getElem?_take_of_lt hk]
theorem getD_drop (l : List Nat) (n k : Nat) : (l.drop n).getD k 0 = l.getD (n + k) 0 := by
  rw [List.getD_eq_getElem?_getD, List.getD_eq_getElem?_getD, List.getElem?_drop]
theorem BsIn.take (h : BsIn w lo hi A l) (n : Nat) : BsIn w lo hi A (l.take n) := fun k hk => by
  rw [List.length_take] at hk
  rw [getD_take l n k (by omega)]
  exact h k (by omega)
theorem BsIn.drop (h : BsIn w lo hi A l) (n : Nat) : BsIn w lo hi (A.map (·.add n)) (l.drop n) := fun k hk => by
  rw [List.length_drop] at hk
  obtain ⟨h1, ad, rfl, h3, h5, h4⟩ := h (n + k) (by omega)
  rw [getD_drop]
  exact ⟨h1, ad.add n, rfl, by rw [add_block]; exact h3, by rw [add_block]; exact h5, by rw [add_add]; exact h4⟩
theorem BsIn.drop' (h : BsIn w lo hi A l) (n c : Nat) (hc : l.length ≤ c) : BsIn w lo hi (if c = n then A else A.map (·.add n)) (l.drop n) := by
  by_cases e : c = n
  · rw [List.drop_eq_nil_of_le (by omega)]; exact BsIn.nil
  · rw [if_neg e]; exact h.drop n
end

/-- The block of a reader: the bytes that are left, and whether a read has failed. -/
def Rdr (w : World) (lo g : Nat) (bad : Bool) (l : List Nat) : Prop :=
  ∃ (A : Option Addr) (c : Nat), w.heap[g]? = some (.cells #[.slice A l.length c, .bool bad] 89 (0, 0)) ∧ lo ≤ g ∧ l.length ≤ c ∧ c ≤ maxLen ∧ (A = none → c = 0) ∧ BsIn w lo g A l ∧ (bad = true → l = [])
section
variable {w w' : World} {lo g : Nat} {bad : Bool} {l : List Nat}
theorem Rdr.lt (h : Rdr w lo g bad l) : g < w.heap.size := by
  obtain ⟨A, c, h, _⟩ := h
  exact (Array.getElem?_eq_some_iff.1 h).1
theorem Rdr.lo_le (h : Rdr w lo g bad l) : lo ≤ g := by
  obtain ⟨A, c, _, h, _⟩ := h
  exact h
theorem Rdr.keep (h : Rdr w lo g bad l) (hb : ∀ b, lo ≤ b → b ≤ g → w'.heap[b]? = w.heap[b]?) : Rdr w' lo g bad l := by
  obtain ⟨A, c, h1, h2, h3, h4, h7, h5, h6⟩ := h
  exact ⟨A, c, (hb g h2 (Nat.le_refl _)).trans h1, h2, h3, h4, h7, h5.keep fun b h7 h8 => hb b h7 (Nat.le_of_lt h8), h6⟩
theorem Rdr.grown {row : Option Nat} (h : Rdr w lo g bad l) (hg : w.grownBy w' row) (hr : ∀ b, row = some b → b < lo ∨ g < b) : Rdr w' lo g bad l :=
  h.keep fun b h1 h2 => hg.block b (Nat.lt_of_le_of_lt h2 h.lt) (fun e => by have := hr b e.symm; omega)
theorem Rdr.below {B : Nat} (h : Rdr w lo g bad l) (hb : Below B w w') (hB : g < B) : Rdr w' lo g bad l := h.keep fun b _ h2 => hb.block b (by omega)
theorem Rdr.bad_nil (h : Rdr w lo g true l) : l = [] := by
  obtain ⟨A, c, _, _, _, _, _, _, h⟩ := h
  exact h rfl
theorem Rdr.len_le (h : Rdr w lo g bad l) : l.length ≤ maxLen := by
  obtain ⟨A, c, _, _, h1, h2, _⟩ := h
  omega
theorem Rdr.bytes (h : Rdr w lo g bad l) : ∀ x ∈ l, x < 256 := by
  obtain ⟨A, c, _, _, _, _, _, h, _⟩ := h
  exact h.bs.lt
end
theorem rd_cells {w : World} {g : Nat} {x y : Value} {t : TypeId} (h : w.heap[g]? = some (.cells #[x, y] t (0, 0))) :
    (w.cell? ⟨g, 0, none⟩ = some x ∧ w.cell? ⟨g, 1, none⟩ = some y) ∧ w.frozen? ⟨g, 0, none⟩ = false ∧ w.frozen? ⟨g, 1, none⟩ = false := by
  refine ⟨⟨?_, ?_⟩, ?_, ?_⟩
  · rw [cell_of_row w g 0 _ t (0, 0) h]; rfl
  · rw [cell_of_row w g 1 _ t (0, 0) h]; rfl
  · exact frozen_of_row w g 0 _ t h
  · exact frozen_of_row w g 1 _ t h
theorem set_two {w : World} {g : Nat} {x y u v : Value} {t : TypeId} (h : w.heap[g]? = some (.cells #[x, y] t (0, 0))) :
    ((w.setCell ⟨g, 0, none⟩ u).setCell ⟨g, 1, none⟩ v).heap[g]? = some (.cells #[u, v] t (0, 0)) := by
  simp [World.setCell, Array.getElem?_modify, h]
theorem set_one {w : World} {g : Nat} {x y u : Value} {t : TypeId} (h : w.heap[g]? = some (.cells #[x, y] t (0, 0))) :
    (w.setCell ⟨g, 0, none⟩ u).heap[g]? = some (.cells #[u, y] t (0, 0)) := by
  simp [World.setCell, Array.getElem?_modify, h]
theorem grown_set (w : World) (g o : Nat) (u : Value) : w.grownBy (w.setCell ⟨g, o, none⟩ u) (some g) :=
  ⟨rfl, rfl, rfl, by simp [World.setCell], fun k _ hne => Below.heap_setCell w ⟨g, o, none⟩ u k (fun e => hne (by rw [e]))⟩
theorem grown_trans' {a b c : World} {row : Option Nat} (h : a.grownBy b row) (k : b.grownBy c row) : a.grownBy c row :=
  ⟨k.os.trans h.os, k.tape.trans h.tape, k.output.trans h.output, Nat.le_trans h.size k.size, fun i hi hne => (k.block i (Nat.lt_of_lt_of_le hi h.size) hne).trans (h.block i hi hne)⟩
theorem grown_refl (w : World) (row : Option Nat) : w.grownBy w row := ⟨rfl, rfl, rfl, Nat.le_refl _, fun _ _ _ => rfl⟩
theorem grown_of_below {a w : World} (h : Below a.heap.size a w) (row : Option Nat) : a.grownBy w row := ⟨h.os, h.tape, h.output, h.size, fun i hi _ => h.block i hi⟩
theorem below_of_grown {a w : World} {B g : Nat} (h : a.grownBy w (some g)) (hB : B ≤ g) (hs : B ≤ a.heap.size) : Below B a w :=
  ⟨h.os, h.tape, h.output, h.size, fun i hi => h.block i (by omega) (fun e => by injection e with e; omega)⟩
end Go.Proofs.YtjfgnojmdbfnmaaDoor
