/-
  The walk of the law PairTorn: its four cases together.
-/
import Derived.Test.YtcjnhemlkahgoaaDoorSpTornA
import Derived.Test.YtcjnhemlkahgoaaDoorSpTornB
import Derived.Test.YtcjnhemlkahgoaaDoorSpTornC
import Derived.Test.YtcjnhemlkahgoaaDoorSpTornD
set_option maxRecDepth 100000
namespace Go.Proofs.YtcjnhemlkahgoaaDoor
open Go.RowKit
theorem pairtorn_any (a0 a1 a2 a3 a4 t0 t1 t2 t3 h0 h1 h2 h3 b0 b1 b2 b3 b4 u0 u1 u2 u3 g0 g1 g2 g3 x : Int) (A A' : Option Addr) (n c n' c' : Nat) (l l' : List Sb.L) (w : World) (hs : SlIs A n c) (hs' : SlIs A' n' c') (hl : Hid (l.length = n ∧ Ls w w.heap.size A l)) (hl' : Hid (l'.length = n' ∧ Ls w w.heap.size A' l')) (ht : Hid (TabW w)) (hz : 0 < w.heap.size) :
    Calls Tryd.prog 7 #[.agg #[.int .i64 a0, .int .i64 a1, .int .i64 a2, .int .i64 a3, .int .i64 a4, .int .i64 t0, .int .i64 t1, .int .i64 t2, .int .i64 t3, .int .i64 h0, .int .i64 h1, .int .i64 h2, .int .i64 h3, .slice A n c], .agg #[.int .i64 b0, .int .i64 b1, .int .i64 b2, .int .i64 b3, .int .i64 b4, .int .i64 u0, .int .i64 u1, .int .i64 u2, .int .i64 u3, .int .i64 g0, .int .i64 g1, .int .i64 g2, .int .i64 g3, .slice A' n' c'], .int .i64 x] w fun r w' => r = .returned (.bool true) ∧ Below w.heap.size w w' := by
  obtain ⟨m0, hmm0⟩ := min_is n' 4
  have hu : ∀ m' : Nat, MinIs n' 4 m' → m' = m0 := fun m' h => by unfold MinIs at h hmm0; omega
  have hp : (a0 + 1) % 2 = 0 ∨ (a0 + 1) % 2 = 1 := by omega
  by_cases hG : Sb.good ((a0 + 1) % 2) (tornTwo ⟨a0 + 1, b1, b2, b3, b4, ⟨u0, u1, u2, u3⟩, ⟨g0, g1, g2, g3⟩, (l'.take m0)⟩ (keptBy [] [(0, x)] 0)) ⟨a0 + 1, b1, b2, b3, b4, ⟨u0, u1, u2, u3⟩, ⟨g0, g1, g2, g3⟩, (l'.take m0)⟩
  · rcases hp with hp | hp
    · exact pairtorn_g0 a0 a1 a2 a3 a4 t0 t1 t2 t3 h0 h1 h2 h3 b0 b1 b2 b3 b4 u0 u1 u2 u3 g0 g1 g2 g3 x A A' n c n' c' l l' w hs hs' hl hl' ht hz ⟨hp, fun k m' hk hm' => by rw [hk, hu m' hm']; exact hG⟩
    · exact pairtorn_g1 a0 a1 a2 a3 a4 t0 t1 t2 t3 h0 h1 h2 h3 b0 b1 b2 b3 b4 u0 u1 u2 u3 g0 g1 g2 g3 x A A' n c n' c' l l' w hs hs' hl hl' ht hz ⟨hp, fun k m' hk hm' => by rw [hk, hu m' hm']; exact hG⟩
  · rcases hp with hp | hp
    · exact pairtorn_n0 a0 a1 a2 a3 a4 t0 t1 t2 t3 h0 h1 h2 h3 b0 b1 b2 b3 b4 u0 u1 u2 u3 g0 g1 g2 g3 x A A' n c n' c' l l' w hs hs' hl hl' ht hz ⟨hp, fun k m' hk hm' => by rw [hk, hu m' hm']; exact hG⟩
    · exact pairtorn_n1 a0 a1 a2 a3 a4 t0 t1 t2 t3 h0 h1 h2 h3 b0 b1 b2 b3 b4 u0 u1 u2 u3 g0 g1 g2 g3 x A A' n c n' c' l l' w hs hs' hl hl' ht hz ⟨hp, fun k m' hk hm' => by rw [hk, hu m' hm']; exact hG⟩
end Go.Proofs.YtcjnhemlkahgoaaDoor
