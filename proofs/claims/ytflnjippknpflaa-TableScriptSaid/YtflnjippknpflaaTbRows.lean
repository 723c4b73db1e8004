/-
  What came in, opened: the calls of the statements on the index, and their keys.
-/
import Derived.Test.YtflnjippknpflaaTbLawWork
import Derived.Test.YtflnjippknpflaaTbLawKeys
import Derived.Test.YtflnjippknpflaaShapeIn
set_option maxRecDepth 100000
namespace Go.Proofs.Ytflnjippknpflaa
open Go.ChangeShapes Go.WideShapes Go.ChangeAt Go.RowKit
section
variable {H : Type} {enc : TypeId × Value → H} {W : World}
theorem ent_cells {fuel : Nat} {a0 a1 a2 a3 a4 : Value} {y : DataW H × List MemPlace} (h : DataW.trod enc Try.prog W 0 (fun _ => true) true fuel 30 [a0, a1, a2, a3, a4] = some y) :
    ∃ (x0 x1 x2 x3 : Int) (x4 : Bool), a0 = .int .i64 x0 ∧ a1 = .int .i64 x1 ∧ a2 = .int .i64 x2 ∧ a3 = .int .i64 x3 ∧ a4 = .bool x4 := by
  obtain ⟨xs, fu, _, _, _, hxl, hf⟩ := DataW.trod_struct Try.underlying30 h
  have tI : Try.prog.cellsOf 3 = 1 := by kernel_rfl
  have tB : Try.prog.cellsOf 4 = 1 := by kernel_rfl
  have hxlk : xs.length = 5 := hxl
  have h0 : DataW.trod enc Try.prog W 0 (fun _ => true) true fu 3 (([a0, a1, a2, a3, a4].drop 0).take (Try.prog.cellsOf 3)) = xs[0]? := hf 0 _ rfl
  rw [tI, List.getElem?_eq_getElem (by omega)] at h0
  have h1 : DataW.trod enc Try.prog W 0 (fun _ => true) true fu 3 (([a0, a1, a2, a3, a4].drop 1).take (Try.prog.cellsOf 3)) = xs[1]? := hf 1 _ rfl
  rw [tI, List.getElem?_eq_getElem (by omega)] at h1
  have h2 : DataW.trod enc Try.prog W 0 (fun _ => true) true fu 3 (([a0, a1, a2, a3, a4].drop 2).take (Try.prog.cellsOf 3)) = xs[2]? := hf 2 _ rfl
  rw [tI, List.getElem?_eq_getElem (by omega)] at h2
  have h3 : DataW.trod enc Try.prog W 0 (fun _ => true) true fu 3 (([a0, a1, a2, a3, a4].drop 3).take (Try.prog.cellsOf 3)) = xs[3]? := hf 3 _ rfl
  rw [tI, List.getElem?_eq_getElem (by omega)] at h3
  have h4 : DataW.trod enc Try.prog W 0 (fun _ => true) true fu 4 (([a0, a1, a2, a3, a4].drop 4).take (Try.prog.cellsOf 4)) = xs[4]? := hf 4 _ rfl
  rw [tB, List.getElem?_eq_getElem (by omega)] at h4
  obtain ⟨b0, e0, _⟩ := DataW.trod_int Try.underlying3 h0
  obtain ⟨b1, e1, _⟩ := DataW.trod_int Try.underlying3 h1
  obtain ⟨b2, e2, _⟩ := DataW.trod_int Try.underlying3 h2
  obtain ⟨b3, e3, _⟩ := DataW.trod_int Try.underlying3 h3
  obtain ⟨b4, e4, _⟩ := DataW.trod_bool Try.underlying4 h4
  exact ⟨b0, b1, b2, b3, b4, by simpa using e0, by simpa using e1, by simpa using e2, by simpa using e3, by simpa using e4⟩
theorem op_cells {fuel : Nat} {a0 a1 a2 a3 a4 a5 a6 : Value} {y : DataW H × List MemPlace} (h : DataW.trod enc Try.prog W 0 (fun _ => true) true fuel 32 [a0, a1, a2, a3, a4, a5, a6] = some y) :
    ∃ p, [a0, a1, a2, a3, a4, a5, a6] = topc p := by
  obtain ⟨xs, fu, _, _, _, hxl, hf⟩ := DataW.trod_struct Try.underlying32 h
  have tI : Try.prog.cellsOf 3 = 1 := by kernel_rfl
  have tE : Try.prog.cellsOf 30 = 5 := by kernel_rfl
  have hxlk : xs.length = 3 := hxl
  have h0 : DataW.trod enc Try.prog W 0 (fun _ => true) true fu 3 (([a0, a1, a2, a3, a4, a5, a6].drop 0).take (Try.prog.cellsOf 3)) = xs[0]? := hf 0 _ rfl
  rw [tI, List.getElem?_eq_getElem (by omega)] at h0
  have h1 : DataW.trod enc Try.prog W 0 (fun _ => true) true fu 3 (([a0, a1, a2, a3, a4, a5, a6].drop 1).take (Try.prog.cellsOf 3)) = xs[1]? := hf 1 _ rfl
  rw [tI, List.getElem?_eq_getElem (by omega)] at h1
  have h2 : DataW.trod enc Try.prog W 0 (fun _ => true) true fu 30 (([a0, a1, a2, a3, a4, a5, a6].drop 2).take (Try.prog.cellsOf 30)) = xs[2]? := hf 2 _ rfl
  rw [tE, List.getElem?_eq_getElem (by omega)] at h2
  obtain ⟨b0, e0, _⟩ := DataW.trod_int Try.underlying3 h0
  obtain ⟨b1, e1, _⟩ := DataW.trod_int Try.underlying3 h1
  obtain ⟨x0, x1, x2, x3, x4, q0, q1, q2, q3, q4⟩ := ent_cells (a0 := a2) (a1 := a3) (a2 := a4) (a3 := a5) (a4 := a6) h2
  have e0' : a0 = .int .i64 b0 := by simpa using e0
  have e1' : a1 = .int .i64 b1 := by simpa using e1
  subst e0' e1' q0 q1 q2 q3 q4
  exact ⟨⟨b0, b1, ⟨x0, x1, x2, x3, x4⟩⟩, rfl⟩
theorem tops_in {base : Nat} {v : Value} {d : DataW H} {ps : List MemPlace} (hval : Value.okWide Try.prog W .any base 22 v) (hd : DataW.Trod enc Try.prog W 0 (fun _ => true) true 22 v d ps) :
    ∃ A n cap l, v = .slice A n cap ∧ SlIs A n cap ∧ Hid (l.length = n) ∧ Hid (Arr opS W 0 W.heap.size A l) := by
  refine shape_in opS Try.underlying22 (show _ = 7 by kernel_rfl) (fun {fuel cs y} hlen h2 => ?_) hval hd
  match cs, hlen with
  | [v0, v1, v2, v3, v4, v5, v6], _ => exact op_cells h2
theorem strs_in {base : Nat} {v : Value} {d : DataW H} {ps : List MemPlace} (hval : Value.okWide Try.prog W .any base 43 v) (hd : DataW.Trod enc Try.prog W 0 (fun _ => true) true 43 v d ps) :
    ∃ A n cap l, v = .slice A n cap ∧ SlIs A n cap ∧ Hid (l.length = n) ∧ Hid (Arr strS W 0 W.heap.size A l) := by
  refine shape_in strS Try.underlying43 (show _ = 1 by kernel_rfl) (fun {fuel cs y} hlen h2 => ?_) hval hd
  obtain ⟨s, e, _⟩ := DataW.trod_string Try.underlying9 h2
  exact ⟨s, e⟩
end
end Go.Proofs.Ytflnjippknpflaa
