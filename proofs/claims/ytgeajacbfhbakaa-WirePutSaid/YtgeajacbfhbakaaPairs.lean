/-
  A slice of structs of two integers that came in, opened at every index.
-/
import Derived.Test.YtgeajacbfhbakaaRowWords
import Derived.Deep.SlicePairs
namespace Go.Proofs.Ytgeajacbfhbakaa
open Go.ChangeShapes Go.WideShapes Go.ChangeAt Go.RowKit
/-- Pairs of integers read through a slice of structs, below block B. -/
def Prs (w : World) (B : Nat) (A : Option Addr) (n : Nat) : Prop := ∀ k, k < n → ∃ ad x y, A = some ad ∧ ad.block < B ∧ w.cell? (ad.add (k * 2)) = some (.int .i64 x) ∧ w.cell? (ad.add (k * 2 + 1)) = some (.int .i64 y)
theorem Prs.below {B C : Nat} {w w' : World} {A : Option Addr} {n : Nat} (h : Prs w B A n) (hb : Below C w w') (hB : B ≤ C) : Prs w' B A n := fun k hk => by
  obtain ⟨ad, x, y, h1, h2, h3, h4⟩ := h k hk
  exact ⟨ad, x, y, h1, h2, (hb.cell (by rw [add_block]; omega)).trans h3, (hb.cell (by rw [add_block]; omega)).trans h4⟩
theorem next_field (ad : Addr) (j : Nat) : ad.add (j + 1) = ⟨(ad.add j).block, (ad.add j).off + 1, none⟩ := by
  unfold Addr.add
  by_cases hj : j = 0 <;> simp [hj, Nat.add_assoc]
section
variable {H : Type} {enc : TypeId × Value → H} {P : Program} {W : World}
theorem pairs_in {base : Nat} {t e : TypeId} {f0 f1 : Field} {v : Value} {d : DataW H} {ps : List MemPlace} (ht : P.underlying t = some (.slice e)) (he : P.underlying e = some (.struct #[f0, f1]))
    (ce : P.cellsOf e = 2) (o0 : f0.offset = 0) (o1 : f1.offset = 1) (c0 : P.cellsOf f0.type = 1) (c1 : P.cellsOf f1.type = 1) (k0 : P.underlying f0.type = some (.int .i64)) (k1 : P.underlying f1.type = some (.int .i64))
    (hval : Value.okWide P W .any base t v) (hd : DataW.Trod enc P W 0 (fun _ => true) true t v d ps) :
    ∃ (A : Option Addr) (n cap : Nat), v = .slice A n cap ∧ (A = none → cap = 0 ∧ n = 0) ∧ n ≤ cap ∧ cap ≤ 9223372036854775807 ∧ Hid (Prs W W.heap.size A n) := by
  obtain ⟨A, n, cap, rfl⟩ := okWide_slice ht hval
  obtain ⟨fuel, hf⟩ := hd
  rcases Go.Deep.open_slice_pairs ht he ce o0 o1 c0 c1 hf with ⟨hcs, _⟩ | ⟨a, len, cap', m, q, V0, V1, D0, D1, P0, P1, hcs, _, hl, hm, hmm, _, hx⟩
  · simp [Value.cells] at hcs
    obtain ⟨rfl, rfl, rfl⟩ := hcs
    exact ⟨none, 0, 0, rfl, fun _ => ⟨rfl, rfl⟩, Nat.le_refl _, by omega, fun k hk => absurd hk (by omega)⟩
  · simp [Value.cells] at hcs
    obtain ⟨rfl, rfl, rfl⟩ := hcs
    refine ⟨some a, n, cap, rfl, (fun h => by cases h), hl, by unfold maxLen at hm; exact hm, fun k hk => ?_⟩
    simp only [if_true] at hmm
    obtain ⟨h1, h2, h3, h4⟩ := hx k (by omega)
    obtain ⟨x, hx1, _⟩ := DataW.trod_int k0 h3
    obtain ⟨y, hy1, _⟩ := DataW.trod_int k1 h4
    have e1 : V0 k = .int .i64 x := by simpa using hx1
    have e2 : V1 k = .int .i64 y := by simpa using hy1
    rw [e1] at h1
    rw [e2] at h2
    refine ⟨a, x, y, rfl, ?_, h1, h2⟩
    have := World.block_lt_of_cell? W _ h1
    rwa [add_block] at this
end
theorem u64_in {x : Int} (h : (Lit.int .u64 x).wf = true) : ∃ k : Nat, x = (k : Int) ∧ k < 18446744073709551616 := by
  simp only [Lit.wf, Bool.and_eq_true, decide_eq_true_eq] at h
  simp [IntKind.min, IntKind.max, IntKind.signed, IntKind.bits] at h
  exact ⟨x.toNat, by omega, by omega⟩
end Go.Proofs.Ytgeajacbfhbakaa
