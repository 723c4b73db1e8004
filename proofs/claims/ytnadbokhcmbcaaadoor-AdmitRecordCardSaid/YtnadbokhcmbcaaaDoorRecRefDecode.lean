/-
  The walk of the reference's Decode.
-/
import Derived.Test.YtnadbokhcmbcaaaDoorRecEncodeLaw
set_option maxRecDepth 100000
namespace Go.Proofs.YtnadbokhcmbcaaaDoor
open Go.RowKit
theorem byte_at (ad : Addr) (B i : Nat) (l : List Nat) (W : World) (hb : Bs W B (some ad) l) (h0 : 0 < i) (hl : i < l.length) : W.cell? ⟨ad.block, ad.off + i, none⟩ = some (.int .u8 ((l.getD i 0 : Nat) : Int)) := by
  obtain ⟨_, ad', e, _, hc⟩ := hb i hl
  injection e with e
  subst e
  rw [← add_pos ad i h0]; exact hc
theorem wrap_small (q : Nat) (h : q < 9223372036854775808) : IntKind.i64.wrap (q : Int) = (q : Int) := by
  rw [IntKind.wrap_i64]; omega
/-- The second box's second and third field, stored. -/
theorem sd2_set1 {w W : World} {o0 : Obj} {a b c d v : Value} {t : TypeId} (h : Sd2 w o0 (.cells #[a, b, c, d] t (0, 0)) W) : Sd2 w o0 (.cells #[a, v, c, d] t (0, 0)) (W.setCell ⟨w.heap.size + 1, 1, none⟩ v) :=
  ⟨((grown_set W _ _ _).block _ (Array.getElem?_eq_some_iff.1 h.1).1 (fun e => by injection e with e; omega)).trans h.1, by have h1 := h.2.1; simp [World.setCell, Array.getElem?_modify, h1], h.2.2.trans (below_of_grown (grown_set _ _ _ _) (by omega) h.2.2.size)⟩
theorem sd2_set2 {w W : World} {o0 : Obj} {a b c d v : Value} {t : TypeId} (h : Sd2 w o0 (.cells #[a, b, c, d] t (0, 0)) W) : Sd2 w o0 (.cells #[a, b, v, d] t (0, 0)) (W.setCell ⟨w.heap.size + 1, 2, none⟩ v) :=
  ⟨((grown_set W _ _ _).block _ (Array.getElem?_eq_some_iff.1 h.1).1 (fun e => by injection e with e; omega)).trans h.1, by have h1 := h.2.1; simp [World.setCell, Array.getElem?_modify, h1], h.2.2.trans (below_of_grown (grown_set _ _ _ _) (by omega) h.2.2.size)⟩
end Go.Proofs.YtnadbokhcmbcaaaDoor
