/-
  What came in, opened: batches of found records in slices.
-/
import Derived.Test.YtcdomlgnfbdeoaaRpMem
import Derived.Test.YtcdomlgnfbdeoaaFdIn
set_option maxRecDepth 100000
namespace Go.Proofs.Ytcdomlgnfbdeoaa
open Go.ChangeShapes Go.WideShapes Go.ChangeAt Go.RowKit
section
variable {H : Type} {enc : TypeId × Value → H} {W : World}
theorem bat_cells {fuel : Nat} {a0 a1 : Value} {y : DataW H × List MemPlace} (h : DataW.trod enc Try.prog W 0 (fun _ => true) true fuel 34 [a0, a1] = some y) :
    ∃ b : Bt, [a0, a1] = batS.cs b ∧ b.here W W.heap.size := by
  obtain ⟨xs, fu, _, _, _, hxl, hf⟩ := DataW.trod_struct Try.underlying34 h
  have t0 : Try.prog.cellsOf 3 = 1 := by kernel_rfl
  have t2 : Try.prog.cellsOf 32 = 1 := by kernel_rfl
  have hxl2 : xs.length = 2 := hxl
  have h0 : DataW.trod enc Try.prog W 0 (fun _ => true) true fu 3 (([a0, a1].drop 0).take (Try.prog.cellsOf 3)) = xs[0]? := hf 0 _ rfl
  have h1 : DataW.trod enc Try.prog W 0 (fun _ => true) true fu 32 (([a0, a1].drop 1).take (Try.prog.cellsOf 32)) = xs[1]? := hf 1 _ rfl
  rw [t0, List.getElem?_eq_getElem (by omega)] at h0
  rw [t2, List.getElem?_eq_getElem (by omega)] at h1
  obtain ⟨s, es, _⟩ := DataW.trod_int Try.underlying3 h0
  have es' : a0 = .int .i64 s := by simpa using es
  obtain ⟨A, n, c, fds, e, hs, hl, ha, hp⟩ := shape_trod fdS (fun f => f.rd.here W W.heap.size) Try.underlying32 (show _ = 6 by kernel_rfl) (fun {fuel cs y} hlen h2 => by
    match cs, hlen with
    | [v0, v1, v2, v3, v4, v5], _ => exact found_cells h2) (v := a1) h1
  subst es' e
  refine ⟨⟨s, A, n, c, fds⟩, rfl, hs, hl, ha, fun f hf => ?_⟩
  obtain ⟨k, hk, rfl⟩ := List.getElem_of_mem hf
  have := hp k (by rw [← hl]; exact hk)
  rwa [List.getD_eq_getElem?_getD, List.getElem?_eq_getElem hk] at this
theorem bats_in {base : Nat} {v : Value} {d : DataW H} {ps : List MemPlace} (hval : Value.okWide Try.prog W .any base 22 v) (hd : DataW.Trod enc Try.prog W 0 (fun _ => true) true 22 v d ps) :
    ∃ A n cap l, v = .slice A n cap ∧ SlIs A n cap ∧ Hid (l.length = n) ∧ Hid (BtsAt W W.heap.size A l) := by
  obtain ⟨A, n, cap, rfl⟩ := okWide_slice Try.underlying22 hval
  obtain ⟨fuel, hf⟩ := hd
  obtain ⟨A', n', cap', l, e, h1, h2, h3, h4⟩ := shape_trod batS (fun b => b.here W W.heap.size) Try.underlying22 (show _ = 2 by kernel_rfl) (fun {fuel cs y} hlen h2 => by
    match cs, hlen with
    | [v0, v1], _ => exact bat_cells h2) hf
  injection e with e1 e2 e3
  subst e1 e2 e3
  refine ⟨A, n, cap, l, rfl, h1, h2, h3, fun b hb => ?_⟩
  obtain ⟨k, hk, rfl⟩ := List.getElem_of_mem hb
  have := h4 k (by rw [← h2]; exact hk)
  rwa [List.getD_eq_getElem?_getD, List.getElem?_eq_getElem hk] at this
end
end Go.Proofs.Ytcdomlgnfbdeoaa
