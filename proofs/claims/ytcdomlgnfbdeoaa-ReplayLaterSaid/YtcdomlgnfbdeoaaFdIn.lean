/-
  Records and found records that came in, opened.
-/
import Derived.Test.YtcdomlgnfbdeoaaFdMem
import Derived.Test.YtcdomlgnfbdeoaaShapeIn
import Derived.Deep.Slices
import Derived.Deep.Grids
set_option maxRecDepth 100000
namespace Go.Proofs.Ytcdomlgnfbdeoaa
open Go.ChangeShapes Go.WideShapes Go.ChangeAt Go.RowKit
section
variable {H : Type} {enc : TypeId × Value → H} {W : World}
theorem rec_cells {fuel : Nat} {a0 a1 a2 a3 : Value} {y : DataW H × List MemPlace} (h : DataW.trod enc Try.prog W 0 (fun _ => true) true fuel 42 [a0, a1, a2, a3] = some y) :
    ∃ r : Rd, [a0, a1, a2, a3] = recS.cs r ∧ r.here W W.heap.size := by
  obtain ⟨xs, fu, _, _, _, hxl, hf⟩ := DataW.trod_struct Try.underlying42 h
  have t0 : Try.prog.cellsOf 3 = 1 := by kernel_rfl
  have t2 : Try.prog.cellsOf 40 = 1 := by kernel_rfl
  have hxl4 : xs.length = 4 := hxl
  have h0 : DataW.trod enc Try.prog W 0 (fun _ => true) true fu 3 (([a0, a1, a2, a3].drop 0).take (Try.prog.cellsOf 3)) = xs[0]? := hf 0 _ rfl
  have h1 : DataW.trod enc Try.prog W 0 (fun _ => true) true fu 40 (([a0, a1, a2, a3].drop 1).take (Try.prog.cellsOf 40)) = xs[1]? := hf 1 _ rfl
  have h2 : DataW.trod enc Try.prog W 0 (fun _ => true) true fu 40 (([a0, a1, a2, a3].drop 2).take (Try.prog.cellsOf 40)) = xs[2]? := hf 2 _ rfl
  have h3 : DataW.trod enc Try.prog W 0 (fun _ => true) true fu 3 (([a0, a1, a2, a3].drop 3).take (Try.prog.cellsOf 3)) = xs[3]? := hf 3 _ rfl
  rw [t0, List.getElem?_eq_getElem (by omega)] at h0 h3
  rw [t2, List.getElem?_eq_getElem (by omega)] at h1 h2
  obtain ⟨kd, ek, _⟩ := DataW.trod_int Try.underlying3 h0
  obtain ⟨x, ex, _⟩ := DataW.trod_int Try.underlying3 h3
  obtain ⟨A, n, c, k, e1, s1, l1, b1⟩ := bytes_field Try.underlying40 Try.underlying5 (by kernel_rfl) (v := a1) h1
  obtain ⟨A', n', c', k', e2, s2, l2, b2⟩ := bytes_field Try.underlying40 Try.underlying5 (by kernel_rfl) (v := a2) h2
  have ek' : a0 = .int .i64 kd := by simpa using ek
  have ex' : a3 = .int .i64 x := by simpa using ex
  subst ek' ex' e1 e2
  exact ⟨⟨kd, x, A, A', n, c, n', c', k, k'⟩, rfl, ⟨s1, l1, b1⟩, ⟨s2, l2, b2⟩⟩
theorem found_cells {fuel : Nat} {a0 a1 a2 a3 a4 a5 : Value} {y : DataW H × List MemPlace} (h : DataW.trod enc Try.prog W 0 (fun _ => true) true fuel 44 [a0, a1, a2, a3, a4, a5] = some y) :
    ∃ f : Fd, [a0, a1, a2, a3, a4, a5] = fdS.cs f ∧ f.rd.here W W.heap.size := by
  obtain ⟨xs, fu, _, _, _, hxl, hf⟩ := DataW.trod_struct Try.underlying44 h
  have t0 : Try.prog.cellsOf 3 = 1 := by kernel_rfl
  have t2 : Try.prog.cellsOf 42 = 4 := by kernel_rfl
  have hxl3 : xs.length = 3 := hxl
  have h0 : DataW.trod enc Try.prog W 0 (fun _ => true) true fu 3 (([a0, a1, a2, a3, a4, a5].drop 0).take (Try.prog.cellsOf 3)) = xs[0]? := hf 0 _ rfl
  have h1 : DataW.trod enc Try.prog W 0 (fun _ => true) true fu 3 (([a0, a1, a2, a3, a4, a5].drop 1).take (Try.prog.cellsOf 3)) = xs[1]? := hf 1 _ rfl
  have h2 : DataW.trod enc Try.prog W 0 (fun _ => true) true fu 42 (([a0, a1, a2, a3, a4, a5].drop 2).take (Try.prog.cellsOf 42)) = xs[2]? := hf 2 _ rfl
  rw [t0, List.getElem?_eq_getElem (by omega)] at h0 h1
  rw [t2, List.getElem?_eq_getElem (by omega)] at h2
  obtain ⟨o, eo, _⟩ := DataW.trod_int Try.underlying3 h0
  obtain ⟨l, el, _⟩ := DataW.trod_int Try.underlying3 h1
  obtain ⟨r, er, hr⟩ := rec_cells (a0 := a2) (a1 := a3) (a2 := a4) (a3 := a5) h2
  have eo' : a0 = .int .i64 o := by simpa using eo
  have el' : a1 = .int .i64 l := by simpa using el
  refine ⟨⟨o, l, r⟩, ?_, hr⟩
  rw [eo', el']
  show [Value.int .i64 o, .int .i64 l] ++ [a2, a3, a4, a5] = _
  rw [er]
  rfl
end
end Go.Proofs.Ytcdomlgnfbdeoaa
