/-
  The walk of the law PairAtomic: its three cases together.
-/
import Derived.Test.YtcjnhemlkahgoaaDoorSpAtomA
import Derived.Test.YtcjnhemlkahgoaaDoorSpAtomB
import Derived.Test.YtcjnhemlkahgoaaDoorSpAtomC
set_option maxRecDepth 100000
namespace Go.Proofs.YtcjnhemlkahgoaaDoor
open Go.RowKit
theorem pairatomic_any (a0 a1 a2 a3 a4 t0 t1 t2 t3 h0 h1 h2 h3 b0 b1 b2 b3 b4 u0 u1 u2 u3 g0 g1 g2 g3 x : Int) (y : Bool) (A A' : Option Addr) (n c n' c' : Nat) (l l' : List Sb.L) (w : World) (hs : SlIs A n c) (hs' : SlIs A' n' c') (hl : Hid (l.length = n ∧ Ls w w.heap.size A l)) (hl' : Hid (l'.length = n' ∧ Ls w w.heap.size A' l')) (ht : Hid (TabW w)) (hz : 0 < w.heap.size) :
    Calls Tryd.prog 6 #[.agg #[.int .i64 a0, .int .i64 a1, .int .i64 a2, .int .i64 a3, .int .i64 a4, .int .i64 t0, .int .i64 t1, .int .i64 t2, .int .i64 t3, .int .i64 h0, .int .i64 h1, .int .i64 h2, .int .i64 h3, .slice A n c, .int .i64 b0, .int .i64 b1, .int .i64 b2, .int .i64 b3, .int .i64 b4, .int .i64 u0, .int .i64 u1, .int .i64 u2, .int .i64 u3, .int .i64 g0, .int .i64 g1, .int .i64 g2, .int .i64 g3, .slice A' n' c', .int .i64 x, .bool y]] w fun r w' => r = .returned (.bool true) ∧ Below w.heap.size w w' := by
  obtain ⟨kk, hkk, hb⟩ := low3 x
  have h3 : kk = 0 ∨ kk = 1 ∨ 2 ≤ kk := by omega
  rcases h3 with h | h | h
  · exact pairatomic_1 a0 a1 a2 a3 a4 t0 t1 t2 t3 h0 h1 h2 h3 b0 b1 b2 b3 b4 u0 u1 u2 u3 g0 g1 g2 g3 x y A A' n c n' c' l l' w hs hs' hl hl' ht hz (.inl (by rw [hb, h]; rfl))
  · cases y with
    | false => exact pairatomic_1 a0 a1 a2 a3 a4 t0 t1 t2 t3 h0 h1 h2 h3 b0 b1 b2 b3 b4 u0 u1 u2 u3 g0 g1 g2 g3 x false A A' n c n' c' l l' w hs hs' hl hl' ht hz (.inr ⟨by rw [hb, h]; rfl, rfl⟩)
    | true => exact pairatomic_2 a0 a1 a2 a3 a4 t0 t1 t2 t3 h0 h1 h2 h3 b0 b1 b2 b3 b4 u0 u1 u2 u3 g0 g1 g2 g3 x true A A' n c n' c' l l' w hs hs' hl hl' ht hz ⟨by rw [hb, h]; rfl, rfl⟩
  · exact pairatomic_0 a0 a1 a2 a3 a4 t0 t1 t2 t3 h0 h1 h2 h3 b0 b1 b2 b3 b4 u0 u1 u2 u3 g0 g1 g2 g3 x y A A' n c n' c' l l' w hs hs' hl hl' ht hz (show 2 ≤ _ by rw [hb]; omega)
end Go.Proofs.YtcjnhemlkahgoaaDoor
