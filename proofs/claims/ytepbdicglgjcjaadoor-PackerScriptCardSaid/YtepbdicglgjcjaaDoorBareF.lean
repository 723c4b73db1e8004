/-
  The walk of a region on a frame of which a few slots are known.
-/
import Derived.Test.YtepbdicglgjcjaaDoorFoldC
set_option maxRecDepth 100000
namespace Go.Proofs.YtepbdicglgjcjaaDoor
open Go.RowKit
theorem eval_of {a : Act} {j : Nat} {v : Value} (h : a.tmps[j]? = some v) : a.eval (.tmp j) = v := by
  show a.tmps.getD j undef = v
  rw [Array.getD_eq_getD_getElem?, h]; rfl
theorem wanted_yes {ops : Array Oper} {oi : Oper} {a : Act} {g s : Nat} {b : Bool} (hg : oi.guard = some (g, b)) (hs : (ops[g]?).bind (·.dst) = some s) (hf : a.tmps[s]? = some (.bool b)) : Region.wanted oi (yielded ops a.tmps) = true := by
  unfold Region.wanted yielded
  rw [hg]
  simp [hs, hf]
theorem wanted_no {ops : Array Oper} {oi : Oper} {a : Act} {g s : Nat} {b : Bool} (hg : oi.guard = some (g, b)) (hs : (ops[g]?).bind (·.dst) = some s) (hf : a.tmps[s]? = some (.bool (!b))) : Region.wanted oi (yielded ops a.tmps) = false := by
  unfold Region.wanted yielded
  rw [hg]
  cases b <;> simp [hs, hf]
theorem act_next {G : Act → Prop} (a : Act) (d : Nat) (v : Value) (hd : d < a.tmps.size) (h : ∀ a' : Act, a'.tmps.size = a.tmps.size → a'.tmps[d]? = some v → (∀ j, j ≠ d → a'.tmps[j]? = a.tmps[j]?) → a'.defers = a.defers → G a') : G (a.put (some d) v) := by
  refine h _ ?_ ?_ (fun j hj => ?_) rfl
  · show (a.tmps.setIfInBounds d v).size = _
    simp
  · show (a.tmps.setIfInBounds d v)[d]? = _
    rw [Array.getElem?_setIfInBounds]
    simp [hd]
  · show (a.tmps.setIfInBounds d v)[j]? = _
    rw [Array.getElem?_setIfInBounds]
    rw [if_neg (fun e => hj e.symm)]
/-- A frame of which the slots lo .. hi are turned. -/
theorem frame_of (l : List Value) (a' : Act) (lo n : Nat) (hlo : lo + n ≤ l.length) (hs : a'.tmps.size = l.length) (hf : a'.defers = []) (ho : ∀ j, (j < lo ∨ lo + n ≤ j) → a'.tmps[j]? = l[j]?) :
    ∃ m : List Value, m.length = n ∧ (∀ i, i < n → m[i]? = a'.tmps[lo + i]?) ∧ a' = ⟨(l.take lo ++ (m ++ l.drop (lo + n))).toArray, []⟩ := by
  obtain ⟨⟨t⟩, df⟩ := a'
  simp only at hs hf ho ⊢
  subst hf
  have hs' : t.length = l.length := hs
  have ho' : ∀ j, (j < lo ∨ lo + n ≤ j) → t[j]? = l[j]? := fun j hj => by have := ho j hj; simpa using this
  refine ⟨(t.drop lo).take n, by rw [List.length_take, List.length_drop]; omega, fun i hi => by simp [hi], ?_⟩
  have e : t = l.take lo ++ ((t.drop lo).take n ++ l.drop (lo + n)) := by
    have e1 : t.take lo = l.take lo := by
      apply List.ext_getElem?
      intro j
      rw [List.getElem?_take, List.getElem?_take]
      split
      · exact ho' j (.inl (by omega))
      · rfl
    have e2 : t.drop (lo + n) = l.drop (lo + n) := by
      apply List.ext_getElem?
      intro j
      rw [List.getElem?_drop, List.getElem?_drop]
      exact ho' _ (.inr (by omega))
    rw [← e1, ← e2, ← List.drop_drop, List.take_append_drop, List.take_append_drop]
  rw [← e]
theorem list_cons {α : Type} {l : List α} {n : Nat} (h : l.length = n + 1) : ∃ x t, l = x :: t ∧ t.length = n := by
  cases l with
  | nil => cases h
  | cons x t => exact ⟨x, t, rfl, by simpa using h⟩
theorem list_zero {α : Type} {l : List α} (h : l.length = 0) : l = [] := List.length_eq_zero_iff.1 h
end Go.Proofs.YtepbdicglgjcjaaDoor
