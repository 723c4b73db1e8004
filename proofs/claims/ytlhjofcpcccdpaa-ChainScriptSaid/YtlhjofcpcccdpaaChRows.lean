/-
  What came in, opened: the calls of the statements on chains.
-/
import Derived.Test.YtlhjofcpcccdpaaChBef
import Derived.Test.YtlhjofcpcccdpaaShapeIn
set_option maxRecDepth 100000
namespace Go.Proofs.Ytlhjofcpcccdpaa
open Go.ChangeShapes Go.WideShapes Go.ChangeAt Go.RowKit
section
variable {H : Type} {enc : TypeId × Value → H} {W : World}
theorem cop_cells {fuel : Nat} {a0 a1 a2 a3 : Value} {y : DataW H × List MemPlace} (h : DataW.trod enc Try.prog W 0 (fun _ => true) true fuel 30 [a0, a1, a2, a3] = some y) :
    ∃ p, [a0, a1, a2, a3] = copc p := by
  obtain ⟨xs, fu, _, _, _, hxl, hf⟩ := DataW.trod_struct Try.underlying30 h
  have tI : Try.prog.cellsOf 3 = 1 := by kernel_rfl
  have tS : Try.prog.cellsOf 9 = 1 := by kernel_rfl
  have hxlk : xs.length = 4 := hxl
  have h0 : DataW.trod enc Try.prog W 0 (fun _ => true) true fu 3 (([a0, a1, a2, a3].drop 0).take (Try.prog.cellsOf 3)) = xs[0]? := hf 0 _ rfl
  rw [tI, List.getElem?_eq_getElem (by omega)] at h0
  have h1 : DataW.trod enc Try.prog W 0 (fun _ => true) true fu 3 (([a0, a1, a2, a3].drop 1).take (Try.prog.cellsOf 3)) = xs[1]? := hf 1 _ rfl
  rw [tI, List.getElem?_eq_getElem (by omega)] at h1
  have h2 : DataW.trod enc Try.prog W 0 (fun _ => true) true fu 3 (([a0, a1, a2, a3].drop 2).take (Try.prog.cellsOf 3)) = xs[2]? := hf 2 _ rfl
  rw [tI, List.getElem?_eq_getElem (by omega)] at h2
  have h3 : DataW.trod enc Try.prog W 0 (fun _ => true) true fu 9 (([a0, a1, a2, a3].drop 3).take (Try.prog.cellsOf 9)) = xs[3]? := hf 3 _ rfl
  rw [tS, List.getElem?_eq_getElem (by omega)] at h3
  obtain ⟨b0, e0, _, _⟩ := DataW.trod_int Try.underlying3 h0
  obtain ⟨b1, e1, _, g1⟩ := DataW.trod_int Try.underlying3 h1
  obtain ⟨b2, e2, _, g2⟩ := DataW.trod_int Try.underlying3 h2
  obtain ⟨b3, e3, _⟩ := DataW.trod_string Try.underlying9 h3
  have e0' : a0 = .int .i64 b0 := by simpa using e0
  have e1' : a1 = .int .i64 b1 := by simpa using e1
  have e2' : a2 = .int .i64 b2 := by simpa using e2
  have e3' : a3 = .string b3 := by simpa using e3
  subst e0' e1' e2' e3'
  exact ⟨⟨b0, b1, b2, b3, g1, g2⟩, rfl⟩
theorem cops_in {base : Nat} {v : Value} {d : DataW H} {ps : List MemPlace} (hval : Value.okWide Try.prog W .any base 22 v) (hd : DataW.Trod enc Try.prog W 0 (fun _ => true) true 22 v d ps) :
    ∃ A n cap l, v = .slice A n cap ∧ SlIs A n cap ∧ Hid (l.length = n) ∧ Hid (Arr copS W 0 W.heap.size A l) := by
  refine shape_in copS Try.underlying22 (show _ = 4 by kernel_rfl) (fun {fuel cs y} hlen h2 => ?_) hval hd
  match cs, hlen with
  | [v0, v1, v2, v3], _ => exact cop_cells h2
end
end Go.Proofs.Ytlhjofcpcccdpaa
