/-
  What came in, opened: a layout, a target and a plan record by value.
-/
import Derived.Test.YtmkilbogdenljaaBase
set_option maxRecDepth 100000
namespace Go.Proofs.Ytmkilbogdenljaa
open Go.ChangeShapes Go.WideShapes Go.ChangeAt Go.RowKit
section
variable {H : Type} {enc : TypeId × Value → H} {W : World}
theorem layc_cells {fuel : Nat} {a0 a1 a2 a3 : Value} {y : DataW H × List MemPlace} (h : DataW.trod enc Try.prog W 0 (fun _ => true) true fuel 23 [a0, a1, a2, a3] = some y) :
    ∃ x0 x1 x2 x3 : Int, a0 = .int .i64 x0 ∧ a1 = .int .i64 x1 ∧ a2 = .int .i64 x2 ∧ a3 = .int .i64 x3 := by
  obtain ⟨xs, fu, _, _, _, hxl, hf⟩ := DataW.trod_struct Try.underlying23 h
  have tI : Try.prog.cellsOf 3 = 1 := by kernel_rfl
  have hxlk : xs.length = 4 := hxl
  have h0 : DataW.trod enc Try.prog W 0 (fun _ => true) true fu 3 (([a0, a1, a2, a3].drop 0).take (Try.prog.cellsOf 3)) = xs[0]? := hf 0 _ rfl
  rw [tI, List.getElem?_eq_getElem (by omega)] at h0
  have h1 : DataW.trod enc Try.prog W 0 (fun _ => true) true fu 3 (([a0, a1, a2, a3].drop 1).take (Try.prog.cellsOf 3)) = xs[1]? := hf 1 _ rfl
  rw [tI, List.getElem?_eq_getElem (by omega)] at h1
  have h2 : DataW.trod enc Try.prog W 0 (fun _ => true) true fu 3 (([a0, a1, a2, a3].drop 2).take (Try.prog.cellsOf 3)) = xs[2]? := hf 2 _ rfl
  rw [tI, List.getElem?_eq_getElem (by omega)] at h2
  have h3 : DataW.trod enc Try.prog W 0 (fun _ => true) true fu 3 (([a0, a1, a2, a3].drop 3).take (Try.prog.cellsOf 3)) = xs[3]? := hf 3 _ rfl
  rw [tI, List.getElem?_eq_getElem (by omega)] at h3
  obtain ⟨b0, e0, _⟩ := DataW.trod_int Try.underlying3 h0
  obtain ⟨b1, e1, _⟩ := DataW.trod_int Try.underlying3 h1
  obtain ⟨b2, e2, _⟩ := DataW.trod_int Try.underlying3 h2
  obtain ⟨b3, e3, _⟩ := DataW.trod_int Try.underlying3 h3
  exact ⟨b0, b1, b2, b3, by simpa using e0, by simpa using e1, by simpa using e2, by simpa using e3⟩
theorem layc_in {base : Nat} {v : Value} {d : DataW H} {ps : List MemPlace} (hval : Value.okWide Try.prog W .any base 23 v) (hd : DataW.Trod enc Try.prog W 0 (fun _ => true) true 23 v d ps) :
    ∃ x0 x1 x2 x3 : Int, v = .agg #[.int .i64 x0, .int .i64 x1, .int .i64 x2, .int .i64 x3] := by
  simp only [Value.okWide, Try.underlying23] at hval
  obtain ⟨cs, rfl, hsz, _⟩ := hval
  have hk : Try.prog.cellsOf 23 = 4 := by kernel_rfl
  have hlen : cs.toList.length = 4 := by rw [Array.length_toList, hsz, hk]
  obtain ⟨fuel, hf⟩ := hd
  obtain ⟨l⟩ := cs
  match l, hlen with
  | [a0, a1, a2, a3], _ =>
    obtain ⟨x0, x1, x2, x3, rfl, rfl, rfl, rfl⟩ := layc_cells hf
    exact ⟨x0, x1, x2, x3, rfl⟩
end
end Go.Proofs.Ytmkilbogdenljaa
