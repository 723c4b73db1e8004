/-
  The walks of the statements' own words on the index: a key's name, the sanity check, and the statement on Places and Work.
-/
import Derived.Test.YtcdomlgnfbdeoaaTbSet
set_option maxRecDepth 100000
namespace Go.Proofs.Ytcdomlgnfbdeoaa
open Go.RowKit
/-- The key of a number below 1000. -/
def digs (m : Nat) : List Nat := [48 + m / 100, 48 + m / 10 % 10, 48 + m % 10]
def nm (m : Nat) : ByteArray := strOf (digs m)
theorem nm_size (m : Nat) : (nm m).size ≤ 1048576 := by
  have : (nm m).size = 3 := rfl
  omega
/-- What the sanity check wants: the key a. -/
def keyA : ByteArray := { data := #[97] }
/-- What a call on a table leaves of the rest: its blocks are S' now. -/
structure Nx (base : Nat) (S S' : Nat → Prop) (w w' : World) : Prop where
  own : ∀ k, S' k → base ≤ k ∧ k < w'.heap.size
  rest : ∀ k, k < w.heap.size → ¬ S k → ¬ S' k
  kept : Kept S w w'
  below : Below base w w'
theorem Nx.box {base : Nat} {S S' : Nat → Prop} {w w' : World} (h : Nx base S S' w w') {b : Nat} {o : Obj} (hb : w.heap[b]? = some o) (hs : ¬ S b) : w'.heap[b]? = some o ∧ ¬ S' b :=
  ⟨(h.kept.block b (Array.getElem?_eq_some_iff.1 hb).1 hs).trans hb, h.rest b (Array.getElem?_eq_some_iff.1 hb).1 hs⟩
theorem Nx.same {base : Nat} {S : Nat → Prop} {w w' : World} (hB : base ≤ w.heap.size) (hS : ∀ k, S k → base ≤ k ∧ k < w.heap.size) (hk : Kept S w w') : Nx base S S w w' :=
  ⟨fun k h => ⟨(hS k h).1, Nat.lt_of_lt_of_le (hS k h).2 hk.size⟩, fun _ _ h => h, hk, hk.below hB fun k h => (hS k h).1⟩
def TSet (M base : Nat) (S : Nat → Prop) (q : Nat) (H : ByteArray → Tb.En → Prop) (c : Nat) (k : ByteArray) (x : Tb.En) (w : World) (e : Ending) (w' : World) : Prop :=
  e = .returned (.tuple #[]) ∧ ∃ S' c' wk', Nx base S S' w w' ∧ (((∃ x, H k x) ∧ c' = c) ∨ ((∀ x, ¬ H k x) ∧ c' = c + 1)) ∧ Tab M w' S' q (fun k' e' => (k = k' ∧ x = e') ∨ (k ≠ k' ∧ H k' e')) c' wk' ∧ wk' ≤ 8
theorem Tab.work {M : Nat} {w : World} {S : Nat → Prop} {q : Nat} {H : ByteArray → Tb.En → Prop} {c wk : Nat} (h : Tab M w S q H c wk) : wk ≤ 8 := by
  obtain ⟨v, v', l, b, u, o, bo, uo, nx, h1, h2, h3, h4⟩ := h
  exact h2
theorem tset_any (M base q c wk : Nat) (k : ByteArray) (e0 e1 e2 e3 : Int) (e4 : Bool) (H : ByteArray → Tb.En → Prop) (S : Nat → Prop) (w : World) (hB : base ≤ w.heap.size) (hM : M ≤ 1048576) (hk : k.size ≤ 1048576) (hc : c < M) (hS : ∀ k, S k → base ≤ k ∧ k < w.heap.size) (hT : Tab M w S q H c wk) :
    Calls Try.prog 21 #[.pointer (some ⟨q, 0, none⟩), .string k, .agg #[.int .i64 e0, .int .i64 e1, .int .i64 e2, .int .i64 e3, .bool e4]] w (TSet M base S q H c k ⟨e0, e1, e2, e3, e4⟩ w) := by
  refine (tbset_any M q c wk k e0 e1 e2 e3 e4 H S w hM hk hc (fun k h => (hS k h).2) hT).mono ?_
  rintro e w' ⟨rfl, hk', c', wk', hc', hT'⟩
  refine ⟨rfl, fun k => S k ∨ (w.heap.size ≤ k ∧ k < w'.heap.size), c', wk', ⟨fun k h => ?_, fun k hk h h' => ?_, hk', hk'.below hB fun k h => (hS k h).1⟩, hc', hT'.to fun k hk h => ?_, hT'.work⟩
  · rcases h with h | h
    · exact ⟨(hS k h).1, Nat.lt_of_lt_of_le (hS k h).2 hk'.size⟩
    · exact ⟨Nat.le_trans hB h.1, h.2⟩
  · rcases h' with h' | h'
    · exact h h'
    · omega
  · rcases h with h | h
    · exact .inl h
    · exact .inr ⟨h, hk⟩
def TGet (M base : Nat) (S : Nat → Prop) (q : Nat) (H : ByteArray → Tb.En → Prop) (c : Nat) (k : ByteArray) (w : World) (e : Ending) (w' : World) : Prop :=
  ∃ a0 a1 a2 a3 a4 y, e = .returned (.tuple #[.agg #[.int .i64 a0, .int .i64 a1, .int .i64 a2, .int .i64 a3, .bool a4], .bool y]) ∧ ((y = true ∧ H k ⟨a0, a1, a2, a3, a4⟩) ∨ (y = false ∧ Tb.En.mk a0 a1 a2 a3 a4 = Tb.En0 ∧ ∀ x, ¬ H k x)) ∧ Nx base S S w w' ∧ ∃ wk', Tab M w' S q H c wk' ∧ wk' ≤ 8
def TDel (M base : Nat) (S : Nat → Prop) (q : Nat) (H : ByteArray → Tb.En → Prop) (c : Nat) (k : ByteArray) (w : World) (e : Ending) (w' : World) : Prop :=
  ∃ y c' wk', e = .returned (.bool y) ∧ ((y = true ∧ (∃ x, H k x) ∧ c' + 1 = c) ∨ (y = false ∧ (∀ x, ¬ H k x) ∧ c' = c)) ∧ Nx base S S w w' ∧ Tab M w' S q (fun k' e' => H k' e' ∧ k ≠ k') c' wk' ∧ wk' ≤ 8
theorem tdel_any (M base q c wk : Nat) (k : ByteArray) (H : ByteArray → Tb.En → Prop) (S : Nat → Prop) (w : World) (hB : base ≤ w.heap.size) (hM : M ≤ 1048576) (hk : k.size ≤ 1048576) (hS : ∀ k, S k → base ≤ k ∧ k < w.heap.size) (hT : Tab M w S q H c wk) :
    Calls Try.prog 22 #[.pointer (some ⟨q, 0, none⟩), .string k] w (TDel M base S q H c k w) := by
  refine (tbdelete_any M q c wk k H S w hM hk hT).mono ?_
  rintro e w' (⟨h1, rfl, hk', wk', hc, hT'⟩ | ⟨h1, rfl, hk', wk', hT'⟩)
  · exact ⟨true, c - 1, wk', rfl, .inl ⟨rfl, h1, by omega⟩, Nx.same hB hS hk', hT', hT'.work⟩
  · refine ⟨false, c, wk', rfl, .inr ⟨rfl, h1, rfl⟩, Nx.same hB hS hk', ?_, hT'.work⟩
    obtain ⟨v, v', l, b, u, o, bo, uo, nx, a1, a2, a3, a4⟩ := hT'
    refine ⟨v, v', l, b, u, o, bo, uo, nx, a1, a2, a3, fun k' e' => ⟨fun h => (a4 k' e').1 h.1, fun h => ⟨(a4 k' e').2 h, fun e2 => ?_⟩⟩⟩
    subst e2
    exact h1 e' ((a4 k e').2 h)
theorem tnew_any (M base : Nat) (w : World) (hB : base ≤ w.heap.size) : Calls Try.prog 13 #[] w fun e w' => e = .returned (.pointer (some ⟨w.heap.size, 0, none⟩)) ∧ Below w.heap.size w w' ∧ (∀ k, k = w.heap.size → base ≤ k ∧ k < w'.heap.size) ∧ Tab M w' (fun k => k = w.heap.size) w.heap.size (fun _ _ => False) 0 0 := by
  refine (tbnew_any w).mono ?_
  rintro e w' ⟨rfl, hb, hT⟩
  refine ⟨rfl, hb, fun k e => ⟨by omega, e ▸ hT.lt⟩, _, _, _, _, _, _, _, _, _, (Tb.Ok.new M).slack (Nat.zero_le _), Nat.zero_le _, hT, fun k e => ⟨False.elim, fun h => h.elim (Tb.Has.nil k e) (Tb.Has.nil k e)⟩⟩
end Go.Proofs.Ytcdomlgnfbdeoaa
