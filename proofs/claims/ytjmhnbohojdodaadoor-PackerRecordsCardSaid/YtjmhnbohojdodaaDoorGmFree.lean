/-
  The walk of geometry.Free.
-/
import Derived.Test.YtjmhnbohojdodaaDoorGmTaken
import Derived.OwnWalk
set_option maxRecDepth 100000
namespace Go.Proofs.YtjmhnbohojdodaaDoor
open Go.RowKit
def Gm.ints (l : List Nat) : List Int := l.map fun (k : Nat) => (k : Int)
theorem ints_append (a b : List Nat) : Gm.ints (a ++ b) = Gm.ints a ++ Gm.ints b := List.map_append ..
theorem ints_length (l : List Nat) : (Gm.ints l).length = l.length := List.length_map ..
/-- What Free returns: a row of its own. -/
def FreeIs (w : World) (l : List Nat) (r : Ending) (w' : World) : Prop := ∃ v, r = .returned v ∧ ARow intS 3 w' w.heap.size v l.length (Gm.ints l) ∧ Below w.heap.size w w'
theorem info_int : (Tryd.prog.info? 3).map (fun i => (i.zero, i.size, i.bytes)) = some (some (.int .i64 0), 1, 8) := by kernel_rfl
/-- 'append(s, k)' at whole numbers. -/
theorem wpList_append_int {w : World} {ops : Array Oper} {rest : List Oper} {o : Oper} {a : Act} {Q : Exit → Act → World → Prop} (hgd : o.guard = none) (s x : Operand)
    (ho : o.op = .call { callee := .builtin .append, args := #[s, x], argTypes := #[44, 44] })
    (base n g c : Nat) (v : Value) (l : List Int) (p : Int) (hs : a.eval s = v) (hown : ARow intS 3 w base v n l) (hx : a.eval x = .slice (some ⟨g, 0, none⟩) 1 c) (hg : w.heap[g]? = some (.cells #[.int .i64 p] 3 (0, 0))) (hn : n ≤ 1000000) (hbase : base ≤ w.heap.size)
    (h : ∀ v' w', ARow intS 3 w' base v' (n + 1) (l ++ [p]) → Below base w w' → wpList Tryd.prog ops Q rest (a.put o.dst v') w') : wpList Tryd.prog ops Q (o :: rest) a w :=
  wpList_append_arr (S := intS) 44 Tryd.underlying44 info_int rfl hgd s x ho g c p hs hown hx hg (by unfold maxLen; omega) (by omega) hbase fun v' w' h1 h2 _ => h v' w' h1 h2
theorem ARow.mono {α : Type} {S : Shape α} {t : TypeId} {w : World} {b b' n : Nat} {v : Value} {l : List α} (h : ARow S t w b v n l) (hb : b' ≤ b) : ARow S t w b' v n l := ownsRow_mono h hb
theorem free_none {t : Sb.L} (h : ¬ Sb.form t) (live : List Gm.R) : Gm.free t live = [] := if_neg h
end Go.Proofs.YtjmhnbohojdodaaDoor
