/-
  The walk of the statement on Decode.
-/
import Derived.Test.YtjmhnbohojdodaaDoorRecRefDec1
import Derived.Test.YtjmhnbohojdodaaDoorRecRefDec2
import Derived.Test.YtjmhnbohojdodaaDoorRecLengths
import Derived.Test.YtjmhnbohojdodaaDoorRecCut
import Derived.Deep.DeepCutAuto
import Derived.Deep.CutBlock
namespace Go.Proofs.YtjmhnbohojdodaaDoor
open Go.RowKit
theorem refdecode_any (v seq off : Int) (A : Option Addr) (B n c : Nat) (l : List Nat) (w : World) (hB : B ≤ w.heap.size) (hsq : seq ≤ 9223372036854775807) (hs : SlIs A n c) (hl : Hid (l.length = n)) (hb : Hid (Bs w B A l)) (hn : n ≤ 140737488355328) :
    Calls Tryd.prog 26 #[.int .i64 v, .int .i64 seq, .int .i64 off, .slice A n c] w fun e w' => (Rc.good v seq off l ∧ GotRec w v l e w') ∨ (¬ Rc.good v seq off l ∧ NoRec w e w') := by
  by_cases h : ¬ (v = 1 ∨ v = 2) ∨ ¬ Rc.place seq off ∨ n < 16
  · have hng : ¬ Rc.good v seq off l := fun hg => by
      obtain ⟨h1, -, h3, h4, -⟩ := hg
      rw [hl.out] at h1
      have h5 := (Rc.chk_ok h3).1
      rcases h with h | h | h
      · exact h h5
      · exact h h4
      · omega
    exact (refdecode_early v seq off A n c w h).mono fun _ _ h => .inr ⟨hng, h⟩
  · have hv : v = 1 ∨ v = 2 := Decidable.not_not.1 fun e => h (.inl e)
    have hp : Rc.place seq off := Decidable.not_not.1 fun e => h (.inr (.inl e))
    have h16 : 16 ≤ n := by
      rcases Nat.lt_or_ge n 16 with e | e
      · exact absurd (.inr (.inr e)) h
      · exact e
    cases A with
    | none => have := hs.1 rfl; omega
    | some ad =>
      rcases hv with rfl | rfl
      · exact refdecode1 seq off ad B n c l w hB hsq hs.2.1 hs.2.2 hl hb hp h16 hn
      · exact refdecode2 seq off ad B n c l w hB hsq hs.2.1 hs.2.2 hl hb hp h16 hn
theorem sd_place (w : World) (a b c : Value) (t : TypeId) : Sd w w.heap.size (.cells #[a, b, c] t (0, 0)) (w.alloc (.cells #[a, b, c] t)) := ⟨heap_alloc_new _ _, (Below.refl _ w).alloc (Nat.le_refl _) _⟩
end Go.Proofs.YtjmhnbohojdodaaDoor
