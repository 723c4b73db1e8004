/-
  A part of a row, whatever the row is: the operation, the bytes of the part; the ways of the script's read.
-/
import Derived.Test.YtepbdicglgjcjaaDoorFoldN
set_option maxRecDepth 100000
namespace Go.Proofs.YtepbdicglgjcjaaDoor
open Go.RowKit
/-- Where a part begins. -/
def cutTo (A : Option Addr) (cap p : Nat) : Option Addr := if cap = p then A else A.map (·.add p)
theorem exec_slice_row {P : Program} {oi : Oper} {a : Act} (x lo hi : Operand) (t : TypeId) (ho : oi.op = .slice t x (some lo) (some hi) none) (e : TypeId) (ht : P.underlying t = some (.slice e)) (hsz : (P.info? e).map (·.size) = some 1) {A : Option Addr} {N cap p k : Nat} {X Y : Int}
    (hx : a.eval x = .slice A N cap) (hlo : a.eval lo = .int .i64 X) (hhi : a.eval hi = .int .i64 Y) (hX : X = (p : Int)) (hY : Y = ((p + k : Nat) : Int)) (hq : p + k ≤ cap) (w : World) :
    (execOp a.eval oi).run P w = .ok (.value (.slice (cutTo A cap p) k (cap - p))) w := by
  subst hX hY
  cases hi : P.info? e with
  | none => simp [hi] at hsz
  | some i =>
    have hs : i.size = 1 := by simpa [hi] using hsz
    have h4 : p + k - p = k := by omega
    unfold cutTo
    simp only [execOp, ho]
    simp [hx, hlo, hhi, Instr.sliceAt, Instr.slice, Instr.sliceBounds, Instr.sliceBound, asIntOf, run_underlying ht, sizeOf, typeInfo, hi, hs, Result.andThen]
    rw [if_pos (show 0 ≤ (p : Int) + (k : Int) ∧ (p : Int) + (k : Int) ≤ (cap : Int) by omega), show ((p : Int) + (k : Int)).toNat = p + k by omega]
    simp [h4]
theorem bs_cut {w : World} {A : Option Addr} {l : List Nat} {cap p k : Nat} (h : Bs w w.heap.size A l) (hA : A = none ∧ l.length = 0 ∨ ∃ g, A = some ⟨g, 0, none⟩) (hk : p + k ≤ l.length) (hc : l.length ≤ cap) : Bs w w.heap.size (cutTo A cap p) (Rc.sub l p k) := by
  by_cases h0 : k = 0
  · subst h0
    exact fun j hj => absurd hj (by unfold Rc.sub; simp)
  · rcases hA with ⟨-, h1⟩ | ⟨g, rfl⟩
    · omega
    · unfold cutTo
      rw [if_neg (by omega)]
      show Bs w _ (some ((⟨g, 0, none⟩ : Addr).add p)) _
      rw [arr_flat, Nat.zero_add]
      exact h.sub p k
theorem read_ways (off m : Int) (q : Nat) (hq : q ≤ 120773) : (decide (0 ≤ off) = false ∨ (decide (0 ≤ off) = true ∧ decide (0 ≤ m) = false) ∨ (decide (0 ≤ off) = true ∧ decide (0 ≤ m) = true ∧ decide (off ≤ (q : Int)) = false) ∨
    (decide (0 ≤ off) = true ∧ decide (0 ≤ m) = true ∧ decide (off ≤ (q : Int)) = true ∧ decide (m ≤ (q : Int) - off) = false ∧ IntKind.i64.wrap ((q : Int) - off) = (q : Int) - off)) ∨
    (decide (0 ≤ off) = true ∧ decide (0 ≤ m) = true ∧ decide (off ≤ (q : Int)) = true ∧ decide (m ≤ (q : Int) - off) = true ∧ IntKind.i64.wrap ((q : Int) - off) = (q : Int) - off ∧ IntKind.i64.wrap (off + m) = off + m ∧ ∃ p k : Nat, off = (p : Int) ∧ m = (k : Int) ∧ p + k ≤ q) := by
  simp only [decide_eq_true_eq, decide_eq_false_iff_not, IntKind.wrap_i64]
  by_cases h1 : 0 ≤ off
  · by_cases h2 : 0 ≤ m
    · by_cases h3 : off ≤ (q : Int)
      · by_cases h4 : m ≤ (q : Int) - off
        · exact .inr ⟨h1, h2, h3, h4, by omega, by omega, off.toNat, m.toNat, by omega, by omega, by omega⟩
        · exact .inl (.inr (.inr (.inr ⟨h1, h2, h3, h4, by omega⟩)))
      · exact .inl (.inr (.inr (.inl ⟨h1, h2, h3⟩)))
    · exact .inl (.inr (.inl ⟨h1, h2⟩))
  · exact .inl (.inl h1)
end Go.Proofs.YtepbdicglgjcjaaDoor
