/-
  Words on an image of a device: a row of bytes of the call's own, a sector copied into it.
-/
import Derived.Test.YtpidbakjpfngnaaDoorSpMath
set_option maxRecDepth 100000
namespace Go.Proofs.YtpidbakjpfngnaaDoor
open Go.RowKit
theorem row_bs {w : World} {g : Nat} {l : List Nat} {rest : List Value} (h : w.heap[g]? = some (.cells (vals l ++ rest).toArray 5 (0, 0))) (hl : ∀ y ∈ l, y < 256) : Bs w w.heap.size (some ⟨g, 0, none⟩) l := fun k hk => by
  refine ⟨?_, _, rfl, (Array.getElem?_eq_some_iff.1 h).1, ?_⟩
  · rw [List.getD_eq_getElem?_getD, List.getElem?_eq_getElem hk]
    exact hl _ (List.getElem_mem hk)
  · rw [add_flat, Nat.zero_add, cell_of_row _ _ k _ _ _ h, List.getElem?_toArray, List.getElem?_append_left (by rw [vals_length]; exact hk)]
    exact vals_at hk
theorem im_on {W W' : World} {b : Nat} {o : Obj} (h : W.heap[b]? = some o) (hb : Below W.heap.size W W') : W'.heap[b]? = some o := (hb.block b (Array.getElem?_eq_some_iff.1 h).1).trans h
theorem bs_cells {w : World} {B : Nat} {A : Option Addr} {l : List Nat} (h : Bs w B A l) (hl : 0 < l.length) : ∃ ad, A = some ad ∧ ∀ j v, (vals l)[j]? = some v → w.cell? (ad.add j) = some v := by
  obtain ⟨-, ad, rfl, -⟩ := h 0 hl
  exact ⟨ad, rfl, h.cells⟩
theorem splice_sec {l p : List Nat} {n i : Nat} {rest : List Value} (hl : l.length = n * 64) (hp : p.length = 64) (hi : i < n) : splice (vals l ++ rest) (i * 64) (vals p) = vals (putSec l i p) ++ rest := by
  unfold splice putSec
  rw [vals_length, hp, List.take_append_of_le_length (by rw [vals_length]; omega), List.drop_append_of_le_length (by rw [vals_length]; omega)]
  simp [vals]
theorem step_copy_into {P : Program} {ops : Array Oper} {o : Oper} {a : Act} {w : World} {K : Act → World → Prop} {Q : Exit → Act → World → Prop} {E : Prop} (hgd : o.guard = none) (d s : Operand) (dT sT : TypeId)
    (ho : o.op = .call { callee := .builtin .copy, args := #[d, s], argTypes := #[dT, sT] }) (elem : TypeId) (hu : P.underlying dT = some (.slice elem)) (hsz : (P.info? elem).map (·.size) = some 1)
    (dp sp : Option Addr) (dLen dCap sLen sCap : Nat) (hd : a.eval d = .slice dp dLen dCap) (hs : a.eval s = .slice sp sLen sCap)
    (g off : Nat) (cur : List Value) (t : TypeId) (hg : w.heap[g]? = some (.cells cur.toArray t (0, 0))) (cs : List Value) (hn : cs.length = Nat.min sLen dLen)
    (hdp : dp = some ⟨g, off, none⟩) (hsrc : ∃ ad, sp = some ad ∧ ∀ j v, cs[j]? = some v → w.cell? (ad.add j) = some v)
    (hfit : off + cs.length ≤ cur.length) (h1 : ∀ v ∈ cs, v.oneCell' = true)
    (h : ∀ w', Hid (w'.heap[g]? = some (.cells (splice cur off cs).toArray t (0, 0))) → Kept (fun k => k = g) w w' → K (a.put o.dst (goInt cs.length)) w') :
    if Region.wanted o (yielded ops a.tmps) = true then Oper.wp P o a w K Q else E := by
  have hw : Region.wanted o (yielded ops a.tmps) = true := by simp [Region.wanted, hgd]
  rw [if_pos hw]
  obtain ⟨ad, rfl, hc⟩ := hsrc
  subst hdp
  have hrun := run_copy_row (P := P) w dT sT o.type elem g off dLen dCap ad sLen sCap cur.toArray t cs hu hsz hg hn hc (by simpa using hfit) h1
  unfold Oper.wp
  simp [execOp, ho, resolve, invoke, builtin, hd, hs, hrun, Result.andThen]
  exact h _ (show _ = _ by simpa [splice] using setRow_heap w g _ _ t _ hg) (Kept.setRow w g _ rfl)
end Go.Proofs.YtpidbakjpfngnaaDoor
