/-
  A slice of strings that came in, opened.
-/
import Derived.Test.YtkhmimdigdjajaaShapeIn
import Derived.Test.YtkhmimdigdjajaaStrRow
set_option maxRecDepth 100000
namespace Go.Proofs.Ytkhmimdigdjajaa
open Go.ChangeShapes Go.WideShapes Go.ChangeAt Go.RowKit
section
variable {H : Type} {enc : TypeId × Value → H} {W : World}
theorem strs_in {base : Nat} {v : Value} {d : DataW H} {ps : List MemPlace} (hval : Value.okWide Try.prog W .any base 34 v) (hd : DataW.Trod enc Try.prog W 0 (fun _ => true) true 34 v d ps) :
    ∃ A n cap l, v = .slice A n cap ∧ SlIs A n cap ∧ Hid (l.length = n) ∧ Hid (Arr strS W 0 W.heap.size A l) := by
  refine shape_in strS Try.underlying34 (show _ = 1 by kernel_rfl) (fun {fuel cs y} hlen h2 => ?_) hval hd
  obtain ⟨s, e, _⟩ := DataW.trod_string Try.underlying9 h2
  exact ⟨s, e⟩
end
end Go.Proofs.Ytkhmimdigdjajaa
