/-
  Words on the index in memory: a place's cells, the places behind a slice, a table in its block; the ring's next place.
-/
import Derived.Test.YtcdomlgnfbdeoaaOwn
import Derived.Test.YtcdomlgnfbdeoaaSetAt
import Derived.Test.YtcdomlgnfbdeoaaKeyPlaces
import Derived.Test.YtcdomlgnfbdeoaaTbMath
set_option maxRecDepth 100000
namespace Go.Proofs.Ytcdomlgnfbdeoaa
open Go.RowKit
/-- The cells of an entry, of a place. -/
def enc (e : Tb.En) : List Value := [.int .i64 e.seq, .int .i64 e.off, .int .i64 e.len, .int .i64 e.exp, .bool e.hit]
def plc (p : Tb.Pl) : List Value := [.int .i8 p.st, .int .u64 (p.h : Int), .string p.k, .int .i64 p.e.seq, .int .i64 p.e.off, .int .i64 p.e.len, .int .i64 p.e.exp, .bool p.e.hit]
def plS : Shape Tb.Pl := ⟨plc, Tb.Pl0, 8, fun _ => rfl, by decide, fun p u hu => by
  simp only [plc, List.mem_cons, List.not_mem_nil, or_false] at hu
  rcases hu with rfl | rfl | rfl | rfl | rfl | rfl | rfl | rfl <;> rfl⟩
/-- The places behind a slice: none, or a block of their own. -/
def PlAt (w : World) (v : Value) (l : List Tb.Pl) : Prop := (l = [] ∧ v = .slice none 0 0) ∨ ∃ d, 0 < l.length ∧ v = .slice (some ⟨d, 0, none⟩) l.length l.length ∧ w.heap[d]? = some (.cells (plS.flat l).toArray 84 (0, 0))
/-- The cells of one place, as loads spell them. -/
theorem pl_cells {w : World} {d : Nat} {l : List Tb.Pl} (h : w.heap[d]? = some (.cells (plS.flat l).toArray 84 (0, 0))) (i : Nat) (hi : i < l.length) (p : Tb.Pl) (hp : Tb.g l i = p) :
    w.cell? ⟨d, i * 8, none⟩ = some (.int .i8 p.st) ∧ w.cell? ⟨d, i * 8 + 1, none⟩ = some (.int .u64 (p.h : Int)) ∧ w.cell? ⟨d, i * 8 + 2, none⟩ = some (.string p.k) ∧ w.cell? ⟨d, i * 8 + 3, none⟩ = some (.int .i64 p.e.seq) ∧
    w.cell? ⟨d, i * 8 + 4, none⟩ = some (.int .i64 p.e.off) ∧ w.cell? ⟨d, i * 8 + 5, none⟩ = some (.int .i64 p.e.len) ∧ w.cell? ⟨d, i * 8 + 6, none⟩ = some (.int .i64 p.e.exp) ∧ w.cell? ⟨d, i * 8 + 7, none⟩ = some (.bool p.e.hit) := by
  have key : ∀ j v, j < 8 → (plc p)[j]? = some v → w.cell? ⟨d, i * 8 + j, none⟩ = some v := fun j v hj hv => by
    rw [cell_of_row _ _ _ _ _ _ h, List.getElem?_toArray]
    have := plS.flat_at l i j hi hj
    rw [show i * plS.m = i * 8 from rfl] at this
    rw [this, show l.getD i plS.z = p from hp]
    exact hv
  exact ⟨key 0 _ (by decide) rfl, key 1 _ (by decide) rfl, key 2 _ (by decide) rfl, key 3 _ (by decide) rfl, key 4 _ (by decide) rfl, key 5 _ (by decide) rfl, key 6 _ (by decide) rfl, key 7 _ (by decide) rfl⟩
theorem ring_and (i n b : Nat) (hb : n = 2 ^ b) (hi : i < 4611686018427387904) (hn : n < 4611686018427387904) : bits .and .i64 ((i : Int) + 1) ((n : Int) - 1) = (((i + 1) % n : Nat) : Int) := by
  have hp : 0 < n := by rw [hb]; exact Nat.two_pow_pos b
  have e1 : (i : Int) + 1 = ((i + 1 : Nat) : Int) := by omega
  have e2 : (n : Int) - 1 = ((n - 1 : Nat) : Int) := by omega
  have h1 : (BitVec.ofInt 64 ((i + 1 : Nat) : Int)).toNat = i + 1 := by rw [BitVec.ofInt_natCast, BitVec.toNat_ofNat]; exact Nat.mod_eq_of_lt (by omega)
  have h2 : (BitVec.ofInt 64 ((n - 1 : Nat) : Int)).toNat = n - 1 := by rw [BitVec.ofInt_natCast, BitVec.toNat_ofNat]; exact Nat.mod_eq_of_lt (by omega)
  have h3 : (i + 1) &&& (n - 1) = (i + 1) % n := by rw [hb]; exact Nat.and_two_pow_sub_one_eq_mod (i + 1) b
  have h4 : (i + 1) % n < n := Nat.mod_lt _ hp
  rw [e1, e2]
  show IntKind.i64.wrap ((BitVec.ofInt 64 ((i + 1 : Nat) : Int) &&& BitVec.ofInt 64 ((n - 1 : Nat) : Int)).toNat : Int) = _
  rw [BitVec.toNat_and, h1, h2, h3, IntKind.wrap_i64]
  omega
theorem PlAt.len {w : World} {v : Value} {l : List Tb.Pl} (h : PlAt w v l) : ∃ A, v = .slice A l.length l.length := by
  rcases h with ⟨rfl, rfl⟩ | ⟨d, _, rfl, _⟩
  · exact ⟨none, rfl⟩
  · exact ⟨_, rfl⟩
theorem PlAt.at_ {w : World} {v : Value} {l : List Tb.Pl} (h : PlAt w v l) (hl : 0 < l.length) : ∃ d, v = .slice (some ⟨d, 0, none⟩) l.length l.length ∧ w.heap[d]? = some (.cells (plS.flat l).toArray 84 (0, 0)) := by
  rcases h with ⟨rfl, rfl⟩ | ⟨d, _, h1, h2⟩
  · exact absurd hl (Nat.lt_irrefl _)
  · exact ⟨d, h1, h2⟩
theorem pl_frozen {w : World} {d : Nat} {l : List Tb.Pl} (h : w.heap[d]? = some (.cells (plS.flat l).toArray 84 (0, 0))) (o : Nat) :
    w.frozen? ⟨d, o, none⟩ = false ∧ w.frozen? ⟨d, o + 1, none⟩ = false ∧ w.frozen? ⟨d, o + 2, none⟩ = false ∧ w.frozen? ⟨d, o + 3, none⟩ = false ∧ w.frozen? ⟨d, o + 4, none⟩ = false ∧ w.frozen? ⟨d, o + 5, none⟩ = false ∧ w.frozen? ⟨d, o + 6, none⟩ = false ∧ w.frozen? ⟨d, o + 7, none⟩ = false :=
  ⟨frozen_of_row w d _ _ _ h, frozen_of_row w d _ _ _ h, frozen_of_row w d _ _ _ h, frozen_of_row w d _ _ _ h, frozen_of_row w d _ _ _ h, frozen_of_row w d _ _ _ h, frozen_of_row w d _ _ _ h, frozen_of_row w d _ _ _ h⟩
/-- Eight cells set in a row of places. -/
theorem flat_set (p : Tb.Pl) : ∀ (l : List Tb.Pl) (i : Nat), i < l.length →
    ((((((((plS.flat l).set (i * 8) (.int .i8 p.st)).set (i * 8 + 1) (.int .u64 (p.h : Int))).set (i * 8 + 2) (.string p.k)).set (i * 8 + 3) (.int .i64 p.e.seq)).set (i * 8 + 4) (.int .i64 p.e.off)).set (i * 8 + 5) (.int .i64 p.e.len)).set (i * 8 + 6) (.int .i64 p.e.exp)).set (i * 8 + 7) (.bool p.e.hit) = plS.flat (l.set i p)
  | [], _, h => absurd h (Nat.not_lt_zero _)
  | x :: t, 0, _ => rfl
  | x :: t, i + 1, h => by
    have ih := flat_set p t i (by simpa using h)
    have e : ∀ j, (i + 1) * 8 + j = i * 8 + j + 1 + 1 + 1 + 1 + 1 + 1 + 1 + 1 := fun j => by omega
    have e0 : (i + 1) * 8 = i * 8 + 1 + 1 + 1 + 1 + 1 + 1 + 1 + 1 := by omega
    show (((((((((plc x) ++ plS.flat t).set ((i + 1) * 8) _).set _ _).set _ _).set _ _).set _ _).set _ _).set _ _).set _ _ = plc x ++ plS.flat (t.set i p)
    rw [← ih, e 1, e 2, e 3, e 4, e 5, e 6, e 7, e0]
    rfl
/-- A whole place stored. -/
theorem pl_stored {w : World} {d : Nat} {l : List Tb.Pl} (h : w.heap[d]? = some (.cells (plS.flat l).toArray 84 (0, 0))) (i : Nat) (hi : i < l.length) (p : Tb.Pl) :
    ((((((((w.setCell ⟨d, i * 8, none⟩ (.int .i8 p.st)).setCell ⟨d, i * 8 + 1, none⟩ (.int .u64 (p.h : Int))).setCell ⟨d, i * 8 + 2, none⟩ (.string p.k)).setCell ⟨d, i * 8 + 3, none⟩ (.int .i64 p.e.seq)).setCell ⟨d, i * 8 + 4, none⟩ (.int .i64 p.e.off)).setCell ⟨d, i * 8 + 5, none⟩ (.int .i64 p.e.len)).setCell ⟨d, i * 8 + 6, none⟩ (.int .i64 p.e.exp)).setCell ⟨d, i * 8 + 7, none⟩ (.bool p.e.hit)).heap[d]? = some (.cells (plS.flat (l.set i p)).toArray 84 (0, 0)) := by
  rw [← flat_set p l i hi]
  exact set_at (set_at (set_at (set_at (set_at (set_at (set_at (set_at h _ _) _ _) _ _) _ _) _ _) _ _) _ _) _ _
/-- The entry of a place stored. -/
theorem pl_entry {w : World} {d : Nat} {l : List Tb.Pl} (h : w.heap[d]? = some (.cells (plS.flat l).toArray 84 (0, 0))) (i : Nat) (hi : i < l.length) (e : Tb.En) :
    (((((w.setCell ⟨d, i * 8 + 3, none⟩ (.int .i64 e.seq)).setCell ⟨d, i * 8 + 4, none⟩ (.int .i64 e.off)).setCell ⟨d, i * 8 + 5, none⟩ (.int .i64 e.len)).setCell ⟨d, i * 8 + 6, none⟩ (.int .i64 e.exp)).setCell ⟨d, i * 8 + 7, none⟩ (.bool e.hit)).heap[d]? = some (.cells (plS.flat (l.set i { Tb.g l i with e := e })).toArray 84 (0, 0)) := by
  have hs : ∀ (cs : List Value) (j : Nat) (v : Value), cs[j]? = some v → cs.set j v = cs := fun cs j v hv => by
    obtain ⟨hj, hx⟩ := List.getElem?_eq_some_iff.1 hv
    rw [← hx, List.set_getElem_self]
  have at_ : ∀ j v, j < 8 → (plc (Tb.g l i))[j]? = some v → (plS.flat l)[i * 8 + j]? = some v := fun j v hj hv => by
    have := plS.flat_at l i j hi hj
    rw [show i * plS.m = i * 8 from rfl] at this
    rw [this]; exact hv
  have key := flat_set { Tb.g l i with e := e } l i hi
  simp only at key
  rw [hs (plS.flat l) (i * 8) _ (at_ 0 _ (by decide) rfl), hs (plS.flat l) (i * 8 + 1) _ (at_ 1 _ (by decide) rfl), hs (plS.flat l) (i * 8 + 2) _ (at_ 2 _ (by decide) rfl)] at key
  rw [← key]
  exact set_at (set_at (set_at (set_at (set_at h _ _) _ _) _ _) _ _) _ _
/-- A table's block: its new places, its old ones, how far the moving has come, the number of entries, what the last call moved. -/
def tbc (v : Value) (b u : Nat) (v' : Value) (bo uo nx c wk : Nat) : Array Value := #[v, .int .i64 (b : Int), .int .i64 (u : Int), v', .int .i64 (bo : Int), .int .i64 (uo : Int), .int .i64 (nx : Int), .int .i64 (c : Int), .int .i64 (wk : Int)]
section
variable {w : World} {q : Nat} {v v' : Value} {b u bo uo nx c wk : Nat} {t : TypeId}
theorem nine_cells (h : w.heap[q]? = some (.cells (tbc v b u v' bo uo nx c wk) t (0, 0))) :
    w.cell? ⟨q, 0, none⟩ = some v ∧ w.cell? ⟨q, 1, none⟩ = some (.int .i64 (b : Int)) ∧ w.cell? ⟨q, 2, none⟩ = some (.int .i64 (u : Int)) ∧ w.cell? ⟨q, 3, none⟩ = some v' ∧ w.cell? ⟨q, 4, none⟩ = some (.int .i64 (bo : Int)) ∧ w.cell? ⟨q, 5, none⟩ = some (.int .i64 (uo : Int)) ∧ w.cell? ⟨q, 6, none⟩ = some (.int .i64 (nx : Int)) ∧ w.cell? ⟨q, 7, none⟩ = some (.int .i64 (c : Int)) ∧ w.cell? ⟨q, 8, none⟩ = some (.int .i64 (wk : Int)) := by
  refine ⟨?_, ?_, ?_, ?_, ?_, ?_, ?_, ?_, ?_⟩ <;> (rw [cell_of_row _ _ _ _ _ _ h]; rfl)
theorem nine_frozen (h : w.heap[q]? = some (.cells (tbc v b u v' bo uo nx c wk) t (0, 0))) :
    w.frozen? ⟨q, 0, none⟩ = false ∧ w.frozen? ⟨q, 1, none⟩ = false ∧ w.frozen? ⟨q, 2, none⟩ = false ∧ w.frozen? ⟨q, 3, none⟩ = false ∧ w.frozen? ⟨q, 4, none⟩ = false ∧ w.frozen? ⟨q, 5, none⟩ = false ∧ w.frozen? ⟨q, 6, none⟩ = false ∧ w.frozen? ⟨q, 7, none⟩ = false ∧ w.frozen? ⟨q, 8, none⟩ = false :=
  ⟨frozen_of_row w q _ _ _ h, frozen_of_row w q _ _ _ h, frozen_of_row w q _ _ _ h, frozen_of_row w q _ _ _ h, frozen_of_row w q _ _ _ h, frozen_of_row w q _ _ _ h, frozen_of_row w q _ _ _ h, frozen_of_row w q _ _ _ h, frozen_of_row w q _ _ _ h⟩
theorem tb_set (h : w.heap[q]? = some (.cells (tbc v b u v' bo uo nx c wk) t (0, 0))) (o : Nat) (x : Value) : (w.setCell ⟨q, o, none⟩ x).heap[q]? = some (.cells ((tbc v b u v' bo uo nx c wk).toList.set o x).toArray t (0, 0)) :=
  set_at (cs := (tbc v b u v' bo uo nx c wk).toList) (by rw [Array.toArray_toList]; exact h) o x
end
end Go.Proofs.Ytcdomlgnfbdeoaa
