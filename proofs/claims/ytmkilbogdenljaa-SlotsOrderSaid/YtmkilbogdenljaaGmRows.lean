/-
  What came in, opened: two layouts and two slots by value, regions in a slice.
-/
import Derived.Test.YtmkilbogdenljaaPlRows
import Derived.Test.YtmkilbogdenljaaGmTaken
import Derived.Test.YtmkilbogdenljaaShapeIn
set_option maxRecDepth 100000
namespace Go.Proofs.Ytmkilbogdenljaa
open Go.ChangeShapes Go.WideShapes Go.ChangeAt Go.RowKit
section
variable {H : Type} {enc : TypeId × Value → H} {W : World}
theorem hdr_cells {fuel : Nat} {a0 a1 a2 a3 a4 a5 : Value} {y : DataW H × List MemPlace} (h : DataW.trod enc Try.prog W 0 (fun _ => true) true fuel 38 [a0, a1, a2, a3, a4, a5] = some y) :
    ∃ x0 x1 x2 x3 x4 x5 : Int, a0 = .int .i64 x0 ∧ a1 = .int .i64 x1 ∧ a2 = .int .i64 x2 ∧ a3 = .int .i64 x3 ∧ a4 = .int .i64 x4 ∧ a5 = .int .i64 x5 := by
  obtain ⟨xs, fu, _, _, _, hxl, hf⟩ := DataW.trod_struct Try.underlying38 h
  have tI : Try.prog.cellsOf 3 = 1 := by kernel_rfl
  have hxlk : xs.length = 6 := hxl
  have h0 : DataW.trod enc Try.prog W 0 (fun _ => true) true fu 3 (([a0, a1, a2, a3, a4, a5].drop 0).take (Try.prog.cellsOf 3)) = xs[0]? := hf 0 _ rfl
  rw [tI, List.getElem?_eq_getElem (by omega)] at h0
  have h1 : DataW.trod enc Try.prog W 0 (fun _ => true) true fu 3 (([a0, a1, a2, a3, a4, a5].drop 1).take (Try.prog.cellsOf 3)) = xs[1]? := hf 1 _ rfl
  rw [tI, List.getElem?_eq_getElem (by omega)] at h1
  have h2 : DataW.trod enc Try.prog W 0 (fun _ => true) true fu 3 (([a0, a1, a2, a3, a4, a5].drop 2).take (Try.prog.cellsOf 3)) = xs[2]? := hf 2 _ rfl
  rw [tI, List.getElem?_eq_getElem (by omega)] at h2
  have h3 : DataW.trod enc Try.prog W 0 (fun _ => true) true fu 3 (([a0, a1, a2, a3, a4, a5].drop 3).take (Try.prog.cellsOf 3)) = xs[3]? := hf 3 _ rfl
  rw [tI, List.getElem?_eq_getElem (by omega)] at h3
  have h4 : DataW.trod enc Try.prog W 0 (fun _ => true) true fu 3 (([a0, a1, a2, a3, a4, a5].drop 4).take (Try.prog.cellsOf 3)) = xs[4]? := hf 4 _ rfl
  rw [tI, List.getElem?_eq_getElem (by omega)] at h4
  have h5 : DataW.trod enc Try.prog W 0 (fun _ => true) true fu 3 (([a0, a1, a2, a3, a4, a5].drop 5).take (Try.prog.cellsOf 3)) = xs[5]? := hf 5 _ rfl
  rw [tI, List.getElem?_eq_getElem (by omega)] at h5
  obtain ⟨b0, e0, _⟩ := DataW.trod_int Try.underlying3 h0
  obtain ⟨b1, e1, _⟩ := DataW.trod_int Try.underlying3 h1
  obtain ⟨b2, e2, _⟩ := DataW.trod_int Try.underlying3 h2
  obtain ⟨b3, e3, _⟩ := DataW.trod_int Try.underlying3 h3
  obtain ⟨b4, e4, _⟩ := DataW.trod_int Try.underlying3 h4
  obtain ⟨b5, e5, _⟩ := DataW.trod_int Try.underlying3 h5
  exact ⟨b0, b1, b2, b3, b4, b5, by simpa using e0, by simpa using e1, by simpa using e2, by simpa using e3, by simpa using e4, by simpa using e5⟩
theorem region_cells {fuel : Nat} {a0 a1 a2 a3 a4 a5 a6 a7 a8 a9 : Value} {y : DataW H × List MemPlace} (h : DataW.trod enc Try.prog W 0 (fun _ => true) true fuel 40 [a0, a1, a2, a3, a4, a5, a6, a7, a8, a9] = some y) :
    ∃ x0 x1 x2 x3 x4 x5 x6 x7 x8 x9 : Int, a0 = .int .i64 x0 ∧ a1 = .int .i64 x1 ∧ a2 = .int .i64 x2 ∧ a3 = .int .i64 x3 ∧ a4 = .int .i64 x4 ∧ a5 = .int .i64 x5 ∧ a6 = .int .i64 x6 ∧ a7 = .int .i64 x7 ∧ a8 = .int .i64 x8 ∧ a9 = .int .i64 x9 := by
  obtain ⟨xs, fu, _, _, _, hxl, hf⟩ := DataW.trod_struct Try.underlying40 h
  have tH : Try.prog.cellsOf 38 = 6 := by kernel_rfl
  have tL : Try.prog.cellsOf 23 = 4 := by kernel_rfl
  have hxlk : xs.length = 2 := hxl
  have h0 : DataW.trod enc Try.prog W 0 (fun _ => true) true fu 38 (([a0, a1, a2, a3, a4, a5, a6, a7, a8, a9].drop 0).take (Try.prog.cellsOf 38)) = xs[0]? := hf 0 _ rfl
  rw [tH, List.getElem?_eq_getElem (by omega)] at h0
  have h1 : DataW.trod enc Try.prog W 0 (fun _ => true) true fu 23 (([a0, a1, a2, a3, a4, a5, a6, a7, a8, a9].drop 6).take (Try.prog.cellsOf 23)) = xs[1]? := hf 1 _ rfl
  rw [tL, List.getElem?_eq_getElem (by omega)] at h1
  obtain ⟨b0, b1, b2, b3, b4, b5, q0, q1, q2, q3, q4, q5⟩ := hdr_cells (a0 := a0) (a1 := a1) (a2 := a2) (a3 := a3) (a4 := a4) (a5 := a5) h0
  obtain ⟨b6, b7, b8, b9, q6, q7, q8, q9⟩ := layc_cells (a0 := a6) (a1 := a7) (a2 := a8) (a3 := a9) h1
  exact ⟨b0, b1, b2, b3, b4, b5, b6, b7, b8, b9, q0, q1, q2, q3, q4, q5, q6, q7, q8, q9⟩
theorem regs_in {base : Nat} {v : Value} {d : DataW H} {ps : List MemPlace} (hval : Value.okWide Try.prog W .any base 24 v) (hd : DataW.Trod enc Try.prog W 0 (fun _ => true) true 24 v d ps) :
    ∃ A n cap l, v = .slice A n cap ∧ SlIs A n cap ∧ Hid (l.length = n) ∧ Hid (Arr regS W 0 W.heap.size A l) := by
  refine shape_in regS Try.underlying24 (show _ = 10 by kernel_rfl) (fun {fuel cs y} hlen h2 => ?_) hval hd
  match cs, hlen with
  | [v0, v1, v2, v3, v4, v5, v6, v7, v8, v9], _ =>
    obtain ⟨x0, x1, x2, x3, x4, x5, x6, x7, x8, x9, rfl, rfl, rfl, rfl, rfl, rfl, rfl, rfl, rfl, rfl⟩ := region_cells h2
    exact ⟨⟨x0, x1, x2, x3, x4, x5, ⟨x6, x7, x8, x9⟩⟩, rfl⟩
end
end Go.Proofs.Ytmkilbogdenljaa
