/-
  The walk of geometry.Overlap.
-/
import Derived.Test.YtjmhnbohojdodaaDoorGmWalk
namespace Go.Proofs.YtjmhnbohojdodaaDoor
open Go.RowKit
theorem Sd2.drew {w W : World} {o0 o1 : Obj} (h : Sd2 w o0 o1 W) : Sd2 w o0 o1 W.drew := ⟨h.1, h.2.1, below_drawn h.2.2 1⟩
theorem over_bool (a : Sb.L) (i : Int) (b : Sb.L) (k : Int) : decide (Gm.over a i b k) = (decide (Gm.has a i) && (decide (Gm.has b k) && (decide (Gm.spot a i < Gm.spot b (k + 1)) && decide (Gm.spot b k < Gm.spot a (i + 1))))) := by
  simp only [← Bool.decide_and]
  rfl
theorem place_has {a b c d s k : Int} (h : Gm.has ⟨a, b, c, d⟩ s) (hk : k = s ∨ k = s + 1) (w : World) :
    Calls Tryd.prog 43 #[.agg #[.int .i64 a, .int .i64 b, .int .i64 c, .int .i64 d], .int .i64 k] w fun r w' => r = .returned (.int .i64 (Gm.spot ⟨a, b, c, d⟩ k)) ∧ Below w.heap.size w w' := by
  have h1 := h.2.1
  have h2 := h.2.2
  simp only at h2
  have h3 := Gm.spot_small h.1 (s := k) (by omega) (show k ≤ d by omega)
  exact gmplace_any a b c d k _ rfl h3.1 h3.2 w
end Go.Proofs.YtjmhnbohojdodaaDoor
