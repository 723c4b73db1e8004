/-
  A region that draws its order, walked by hand where two or three operations may come up.
-/
import Derived.Test.YtcdomlgnfbdeoaaSbOne
namespace Go.Proofs.Ytcdomlgnfbdeoaa
open Go
section
variable {P : Program} {ops : Array Oper} {Q : Exit → Act → World → Prop} {md : Region.Mode} {S : World → Prop}
theorem hold_two {i j : Nat} {oi oj : Oper} {n : Nat} {ls : Array Bool} {a : Act} {w : World} (hi : ops[i]? = some oi) (hj : ops[j]? = some oj) (hr : Region.ready md ops ls = [i, j]) (hwi : Region.wanted oi (yielded ops a.tmps) = true) (hwj : Region.wanted oj (yielded ops a.tmps) = true)
    (h1 : ∀ K : Act → World → Prop, (∀ b u, S u → wpAnyH P md ops Q S n (ls.setIfInBounds i true) b u → K b u) → Oper.wp P oi a w K Q)
    (h2 : ∀ K : Act → World → Prop, (∀ b u, S u → wpAnyH P md ops Q S n (ls.setIfInBounds j true) b u → K b u) → Oper.wp P oj a w K Q) : wpAnyH P md ops Q S (n + 1) ls a w := by
  refine ⟨fun e => (by rw [hr] at e; cases e), fun k hk => ?_⟩
  rw [hr] at hk
  have hk2 : k = i ∨ k = j := by simpa using hk
  rcases hk2 with rfl | rfl
  · refine wpOp_step hi fun K hK => ?_
    rw [if_pos hwi]
    exact h1 K fun b u hS hb => hK b u ⟨hS, hb⟩
  · refine wpOp_step hj fun K hK => ?_
    rw [if_pos hwj]
    exact h2 K fun b u hS hb => hK b u ⟨hS, hb⟩
theorem hold_three {i j k : Nat} {oi oj ok : Oper} {n : Nat} {ls : Array Bool} {a : Act} {w : World} (hi : ops[i]? = some oi) (hj : ops[j]? = some oj) (hk : ops[k]? = some ok) (hr : Region.ready md ops ls = [i, j, k]) (hwi : Region.wanted oi (yielded ops a.tmps) = true) (hwj : Region.wanted oj (yielded ops a.tmps) = true) (hwk : Region.wanted ok (yielded ops a.tmps) = true)
    (h1 : ∀ K : Act → World → Prop, (∀ b u, S u → wpAnyH P md ops Q S n (ls.setIfInBounds i true) b u → K b u) → Oper.wp P oi a w K Q)
    (h2 : ∀ K : Act → World → Prop, (∀ b u, S u → wpAnyH P md ops Q S n (ls.setIfInBounds j true) b u → K b u) → Oper.wp P oj a w K Q)
    (h3 : ∀ K : Act → World → Prop, (∀ b u, S u → wpAnyH P md ops Q S n (ls.setIfInBounds k true) b u → K b u) → Oper.wp P ok a w K Q) : wpAnyH P md ops Q S (n + 1) ls a w := by
  refine ⟨fun e => (by rw [hr] at e; cases e), fun m hm => ?_⟩
  rw [hr] at hm
  have hm2 : m = i ∨ m = j ∨ m = k := by simpa using hm
  rcases hm2 with rfl | rfl | rfl
  · refine wpOp_step hi fun K hK => ?_
    rw [if_pos hwi]
    exact h1 K fun b u hS hb => hK b u ⟨hS, hb⟩
  · refine wpOp_step hj fun K hK => ?_
    rw [if_pos hwj]
    exact h2 K fun b u hS hb => hK b u ⟨hS, hb⟩
  · refine wpOp_step hk fun K hK => ?_
    rw [if_pos hwk]
    exact h3 K fun b u hS hb => hK b u ⟨hS, hb⟩
end
end Go.Proofs.Ytcdomlgnfbdeoaa
