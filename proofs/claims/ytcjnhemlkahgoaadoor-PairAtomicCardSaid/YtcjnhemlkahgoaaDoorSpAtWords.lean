/-
  Words for the law PairAtomic: a struct of thirty cells, two boxes made in any order, and laid.
-/
import Derived.Test.YtcjnhemlkahgoaaDoorSpTwo
import Derived.Test.YtcjnhemlkahgoaaDoorSbUse
set_option maxRecDepth 100000
namespace Go.Proofs.YtcjnhemlkahgoaaDoor
open Go.RowKit
theorem cells30 {w : World} {g : Nat} {a0 a1 a2 a3 a4 a5 a6 a7 a8 a9 a10 a11 a12 a13 a14 a15 a16 a17 a18 a19 a20 a21 a22 a23 a24 a25 a26 a27 a28 a29 : Value} {t : TypeId} (h : w.heap[g]? = some (.cells #[a0, a1, a2, a3, a4, a5, a6, a7, a8, a9, a10, a11, a12, a13, a14, a15, a16, a17, a18, a19, a20, a21, a22, a23, a24, a25, a26, a27, a28, a29] t (0, 0))) : w.cell? ⟨g, 0, none⟩ = some a0 ∧ w.cell? ⟨g, 1, none⟩ = some a1 ∧ w.cell? ⟨g, 2, none⟩ = some a2 ∧ w.cell? ⟨g, 3, none⟩ = some a3 ∧ w.cell? ⟨g, 4, none⟩ = some a4 ∧ w.cell? ⟨g, 5, none⟩ = some a5 ∧ w.cell? ⟨g, 6, none⟩ = some a6 ∧ w.cell? ⟨g, 7, none⟩ = some a7 ∧ w.cell? ⟨g, 8, none⟩ = some a8 ∧ w.cell? ⟨g, 9, none⟩ = some a9 ∧ w.cell? ⟨g, 10, none⟩ = some a10 ∧ w.cell? ⟨g, 11, none⟩ = some a11 ∧ w.cell? ⟨g, 12, none⟩ = some a12 ∧ w.cell? ⟨g, 13, none⟩ = some a13 ∧ w.cell? ⟨g, 14, none⟩ = some a14 ∧ w.cell? ⟨g, 15, none⟩ = some a15 ∧ w.cell? ⟨g, 16, none⟩ = some a16 ∧ w.cell? ⟨g, 17, none⟩ = some a17 ∧ w.cell? ⟨g, 18, none⟩ = some a18 ∧ w.cell? ⟨g, 19, none⟩ = some a19 ∧ w.cell? ⟨g, 20, none⟩ = some a20 ∧ w.cell? ⟨g, 21, none⟩ = some a21 ∧ w.cell? ⟨g, 22, none⟩ = some a22 ∧ w.cell? ⟨g, 23, none⟩ = some a23 ∧ w.cell? ⟨g, 24, none⟩ = some a24 ∧ w.cell? ⟨g, 25, none⟩ = some a25 ∧ w.cell? ⟨g, 26, none⟩ = some a26 ∧ w.cell? ⟨g, 27, none⟩ = some a27 ∧ w.cell? ⟨g, 28, none⟩ = some a28 ∧ w.cell? ⟨g, 29, none⟩ = some a29 := by
  refine ⟨?_, ?_, ?_, ?_, ?_, ?_, ?_, ?_, ?_, ?_, ?_, ?_, ?_, ?_, ?_, ?_, ?_, ?_, ?_, ?_, ?_, ?_, ?_, ?_, ?_, ?_, ?_, ?_, ?_, ?_⟩
  all_goals (rw [cell_of_row w g _ _ t (0, 0) h]; rfl)
theorem box_made {w : World} {g : Nat} {o : Obj} (h : w.heap[g]? = some o) (o' : Obj) : (w.alloc o').heap[g]? = some o := box_on h (below_new _ _)
/-- Two blocks made one behind the other. -/
theorem two_made {w X1 X2 Y : World} {o : Obj} (h0 : Below w.heap.size w X1) (h1 : Below (X1.alloc o).heap.size (X1.alloc o) X2) (h2 : Below (X2.alloc o).heap.size (X2.alloc o) Y) (ho : ∀ X : World, (X.alloc o).heap[X.heap.size]? = some o) :
    TwoBox w X1.heap.size X2.heap.size o o Y ∧ TwoBox w X2.heap.size X1.heap.size o o Y := by
  have k1 : X1.heap.size < X2.heap.size := Nat.lt_of_lt_of_le (box_lt (ho X1)) h1.size
  have e1 : Y.heap[X1.heap.size]? = some o := box_on (box_made (box_on (ho X1) h1) o) h2
  have e2 : Y.heap[X2.heap.size]? = some o := box_on (ho X2) h2
  have b1 : Below w.heap.size w (X1.alloc o) := below_made h0 (Nat.le_refl _) o
  have b2 : Below w.heap.size w X2 := b1.trans (h1.mono b1.size)
  have b3 : Below w.heap.size w (X2.alloc o) := below_made b2 (Nat.le_refl _) o
  have b4 : Below w.heap.size w Y := b3.trans (h2.mono b3.size)
  exact ⟨⟨e1, e2, Nat.ne_of_lt k1, h0.size, b2.size, b4⟩, ⟨e2, e1, Nat.ne_of_gt k1, b2.size, h0.size, b4⟩⟩
theorem two_made1 {w X1 Y : World} {o : Obj} (h0 : Below w.heap.size w X1) (h2 : Below ((X1.alloc o).alloc o).heap.size ((X1.alloc o).alloc o) Y) (ho : ∀ X : World, (X.alloc o).heap[X.heap.size]? = some o) :
    TwoBox w X1.heap.size (X1.heap.size + 1) o o Y ∧ TwoBox w (X1.heap.size + 1) X1.heap.size o o Y := by
  have h := two_made h0 (Below.refl _ _) h2 ho
  rw [show (X1.alloc o).heap.size = X1.heap.size + 1 by simp] at h
  exact h
/-- Both are laid. -/
theorem two_laid {w Y : World} {p q : Nat} {c0 c1 c2 c3 c4 c5 c6 c7 c8 c9 c10 c11 c12 c13 d0 d1 d2 d3 d4 d5 d6 d7 d8 d9 d10 d11 d12 d13 e0 e1 e2 e3 e4 e5 e6 e7 e8 e9 e10 e11 e12 e13 h0 h1 h2 h3 h4 h5 h6 h7 h8 h9 h10 h11 h12 h13 : Value} {t : TypeId} (h : TwoBox w p q (.cells #[c0, c1, c2, c3, c4, c5, c6, c7, c8, c9, c10, c11, c12, c13] t (0, 0)) (.cells #[d0, d1, d2, d3, d4, d5, d6, d7, d8, d9, d10, d11, d12, d13] t (0, 0)) Y) :
    TwoBox w p q (.cells #[e0, e1, e2, e3, e4, e5, e6, e7, e8, e9, e10, e11, e12, e13] t (0, 0)) (.cells #[h0, h1, h2, h3, h4, h5, h6, h7, h8, h9, h10, h11, h12, h13] t (0, 0)) ((((((((((((((((((((((((((((Y.setCell ⟨p, 0, none⟩ e0).setCell ⟨p, 1, none⟩ e1).setCell ⟨p, 2, none⟩ e2).setCell ⟨p, 3, none⟩ e3).setCell ⟨p, 4, none⟩ e4).setCell ⟨p, 5, none⟩ e5).setCell ⟨p, 6, none⟩ e6).setCell ⟨p, 7, none⟩ e7).setCell ⟨p, 8, none⟩ e8).setCell ⟨p, 9, none⟩ e9).setCell ⟨p, 10, none⟩ e10).setCell ⟨p, 11, none⟩ e11).setCell ⟨p, 12, none⟩ e12).setCell ⟨p, 13, none⟩ e13).setCell ⟨q, 0, none⟩ h0).setCell ⟨q, 1, none⟩ h1).setCell ⟨q, 2, none⟩ h2).setCell ⟨q, 3, none⟩ h3).setCell ⟨q, 4, none⟩ h4).setCell ⟨q, 5, none⟩ h5).setCell ⟨q, 6, none⟩ h6).setCell ⟨q, 7, none⟩ h7).setCell ⟨q, 8, none⟩ h8).setCell ⟨q, 9, none⟩ h9).setCell ⟨q, 10, none⟩ h10).setCell ⟨q, 11, none⟩ h11).setCell ⟨q, 12, none⟩ h12).setCell ⟨q, 13, none⟩ h13) := by
  have g1 := stored14_grown Y p e0 e1 e2 e3 e4 e5 e6 e7 e8 e9 e10 e11 e12 e13
  have k1 := stored14 (w := Y) (b0 := e0) (b1 := e1) (b2 := e2) (b3 := e3) (b4 := e4) (b5 := e5) (b6 := e6) (b7 := e7) (b8 := e8) (b9 := e9) (b10 := e10) (b11 := e11) (b12 := e12) (b13 := e13) h.1
  have k2 := (g1.block _ (box_lt h.2.1) (fun e => by injection e with e; exact h.2.2.1 e.symm)).trans h.2.1
  have g2 := stored14_grown ((((((((((((((Y.setCell ⟨p, 0, none⟩ e0).setCell ⟨p, 1, none⟩ e1).setCell ⟨p, 2, none⟩ e2).setCell ⟨p, 3, none⟩ e3).setCell ⟨p, 4, none⟩ e4).setCell ⟨p, 5, none⟩ e5).setCell ⟨p, 6, none⟩ e6).setCell ⟨p, 7, none⟩ e7).setCell ⟨p, 8, none⟩ e8).setCell ⟨p, 9, none⟩ e9).setCell ⟨p, 10, none⟩ e10).setCell ⟨p, 11, none⟩ e11).setCell ⟨p, 12, none⟩ e12).setCell ⟨p, 13, none⟩ e13) q h0 h1 h2 h3 h4 h5 h6 h7 h8 h9 h10 h11 h12 h13
  have k3 := stored14 (w := ((((((((((((((Y.setCell ⟨p, 0, none⟩ e0).setCell ⟨p, 1, none⟩ e1).setCell ⟨p, 2, none⟩ e2).setCell ⟨p, 3, none⟩ e3).setCell ⟨p, 4, none⟩ e4).setCell ⟨p, 5, none⟩ e5).setCell ⟨p, 6, none⟩ e6).setCell ⟨p, 7, none⟩ e7).setCell ⟨p, 8, none⟩ e8).setCell ⟨p, 9, none⟩ e9).setCell ⟨p, 10, none⟩ e10).setCell ⟨p, 11, none⟩ e11).setCell ⟨p, 12, none⟩ e12).setCell ⟨p, 13, none⟩ e13)) (b0 := h0) (b1 := h1) (b2 := h2) (b3 := h3) (b4 := h4) (b5 := h5) (b6 := h6) (b7 := h7) (b8 := h8) (b9 := h9) (b10 := h10) (b11 := h11) (b12 := h12) (b13 := h13) k2
  have k4 := (g2.block _ (box_lt k1) (fun e => by injection e with e; exact h.2.2.1 e)).trans k1
  have b1 : Below w.heap.size w ((((((((((((((Y.setCell ⟨p, 0, none⟩ e0).setCell ⟨p, 1, none⟩ e1).setCell ⟨p, 2, none⟩ e2).setCell ⟨p, 3, none⟩ e3).setCell ⟨p, 4, none⟩ e4).setCell ⟨p, 5, none⟩ e5).setCell ⟨p, 6, none⟩ e6).setCell ⟨p, 7, none⟩ e7).setCell ⟨p, 8, none⟩ e8).setCell ⟨p, 9, none⟩ e9).setCell ⟨p, 10, none⟩ e10).setCell ⟨p, 11, none⟩ e11).setCell ⟨p, 12, none⟩ e12).setCell ⟨p, 13, none⟩ e13) := h.below.trans (below_of_grown g1 h.2.2.2.1 h.below.size)
  exact ⟨k4, k3, h.2.2.1, h.2.2.2.1, h.2.2.2.2.1, b1.trans (below_of_grown g2 h.2.2.2.2.1 b1.size)⟩
section
variable {P : Program} {ops : Array Oper} {Q : Exit → Act → World → Prop} {md : Region.Mode} {S : World → Prop}
/-- Several operations may come next. -/
theorem held_two {i j : Nat} {oi oj : Oper} {n : Nat} {ls : Array Bool} {a : Act} {w : World} (hi : ops[i]? = some oi) (hj : ops[j]? = some oj) (hr : Region.ready md ops ls = [i, j]) (hwi : Region.wanted oi (yielded ops a.tmps) = true) (hwj : Region.wanted oj (yielded ops a.tmps) = true)
    (h1 : ∀ K : Act → World → Prop, (∀ b u, S u → wpAnyH P md ops Q S n (ls.setIfInBounds i true) b u → K b u) → Oper.wp P oi a w K Q)
    (h2 : ∀ K : Act → World → Prop, (∀ b u, S u → wpAnyH P md ops Q S n (ls.setIfInBounds j true) b u → K b u) → Oper.wp P oj a w K Q) : wpAnyH P md ops Q S (n + 1) ls a w := by
  refine ⟨fun e => (by rw [hr] at e; cases e), fun k hk => ?_⟩
  rw [hr] at hk
  have hk2 : k = i ∨ k = j := by simpa using hk
  rcases hk2 with rfl | rfl
  · refine wpOp_step hi fun K hK => ?_
    rw [if_pos hwi]
    exact h1 K fun b u hS hb => hK b u ⟨hS, hb⟩
  · refine wpOp_step hj fun K hK => ?_
    rw [if_pos hwj]
    exact h2 K fun b u hS hb => hK b u ⟨hS, hb⟩
theorem held_three {i j k : Nat} {oi oj ok : Oper} {n : Nat} {ls : Array Bool} {a : Act} {w : World} (hi : ops[i]? = some oi) (hj : ops[j]? = some oj) (hk : ops[k]? = some ok) (hr : Region.ready md ops ls = [i, j, k]) (hwi : Region.wanted oi (yielded ops a.tmps) = true) (hwj : Region.wanted oj (yielded ops a.tmps) = true) (hwk : Region.wanted ok (yielded ops a.tmps) = true)
    (h1 : ∀ K : Act → World → Prop, (∀ b u, S u → wpAnyH P md ops Q S n (ls.setIfInBounds i true) b u → K b u) → Oper.wp P oi a w K Q)
    (h2 : ∀ K : Act → World → Prop, (∀ b u, S u → wpAnyH P md ops Q S n (ls.setIfInBounds j true) b u → K b u) → Oper.wp P oj a w K Q)
    (h3 : ∀ K : Act → World → Prop, (∀ b u, S u → wpAnyH P md ops Q S n (ls.setIfInBounds k true) b u → K b u) → Oper.wp P ok a w K Q) : wpAnyH P md ops Q S (n + 1) ls a w := by
  refine ⟨fun e => (by rw [hr] at e; cases e), fun m hm => ?_⟩
  rw [hr] at hm
  have hm2 : m = i ∨ m = j ∨ m = k := by simpa using hm
  rcases hm2 with rfl | rfl | rfl
  · refine wpOp_step hi fun K hK => ?_
    rw [if_pos hwi]
    exact h1 K fun b u hS hb => hK b u ⟨hS, hb⟩
  · refine wpOp_step hj fun K hK => ?_
    rw [if_pos hwj]
    exact h2 K fun b u hS hb => hK b u ⟨hS, hb⟩
  · refine wpOp_step hk fun K hK => ?_
    rw [if_pos hwk]
    exact h3 K fun b u hS hb => hK b u ⟨hS, hb⟩
/-- What all ways meet at. -/
theorem held_meet {n nT : Nat} {ls lsT : Array Bool} {a : Act} {w : World} (R : Act → World → Prop) (tail : ∀ b W, R b W → wpAnyH P md ops Q S nT lsT b W) (tree : (∀ b W, R b W → wpAnyH P md ops Q S nT lsT b W) → wpAnyH P md ops Q S n ls a w) : wpAnyH P md ops Q S n ls a w := tree tail
end
theorem low3 (n : Int) : ∃ N : Nat, N ≤ 3 ∧ bits .and .i64 n 3 = (N : Int) := by
  have h1 : (BitVec.ofInt 64 3).toNat = 3 := by decide
  have hle : (BitVec.ofInt 64 n).toNat &&& 3 ≤ 3 := Nat.and_le_right
  refine ⟨(BitVec.ofInt 64 n).toNat &&& 3, hle, ?_⟩
  show IntKind.i64.wrap ((BitVec.ofInt 64 n &&& BitVec.ofInt 64 3).toNat : Int) = _
  rw [BitVec.toNat_and, h1, IntKind.wrap_i64]
  omega
end Go.Proofs.YtcjnhemlkahgoaaDoor
