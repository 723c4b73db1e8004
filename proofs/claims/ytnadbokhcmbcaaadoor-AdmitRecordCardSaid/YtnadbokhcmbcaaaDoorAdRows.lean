/-
  What came in, opened: a request by value.
-/
import Derived.Test.YtnadbokhcmbcaaaDoorBase
import Derived.Test.YtnadbokhcmbcaaaDoorPlRows
set_option maxRecDepth 100000
namespace Go.Proofs.YtnadbokhcmbcaaaDoor
open Go.ChangeShapes Go.WideShapes Go.ChangeAt Go.RowKit
section
variable {H : Type} {enc : TypeId × Value → H} {W : World}
theorem request_in {base : Nat} {v : Value} {d : DataW H} {ps : List MemPlace} (hval : Value.okWide Tryd.prog W .any base 26 v) (hd : DataW.Trod enc Tryd.prog W 0 (fun _ => true) true 26 v d ps) :
    ∃ (a b c e now ttl : Int) (A : Option Addr) (n p : Nat) (k : List Nat) (A' : Option Addr) (n' p' : Nat) (l : List Nat), v = .agg #[.int .i64 a, .int .i64 b, .int .i64 c, .int .i64 e, .int .i64 now, .int .i64 ttl, .slice A n p, .slice A' n' p'] ∧ SlIs A n p ∧ SlIs A' n' p' ∧ Hid (k.length = n ∧ Bs W W.heap.size A k) ∧ Hid (l.length = n' ∧ Bs W W.heap.size A' l) := by
  simp only [Value.okWide, Tryd.underlying26] at hval
  obtain ⟨cs, rfl, hsz, _⟩ := hval
  have hk : Tryd.prog.cellsOf 26 = 8 := by kernel_rfl
  have hlen : cs.toList.length = 8 := by rw [Array.length_toList, hsz, hk]
  obtain ⟨fuel, hf⟩ := hd
  obtain ⟨xs, fu, _, _, _, hxl, hf⟩ := DataW.trod_struct Tryd.underlying26 hf
  have tI : Tryd.prog.cellsOf 3 = 1 := by kernel_rfl
  have tL : Tryd.prog.cellsOf 23 = 4 := by kernel_rfl
  have tS : Tryd.prog.cellsOf 24 = 1 := by kernel_rfl
  have hxl5 : xs.length = 5 := hxl
  obtain ⟨l⟩ := cs
  match l, hlen with
  | [a0, a1, a2, a3, a4, a5, a6, a7], _ =>
    have h0 : DataW.trod enc Tryd.prog W 0 (fun _ => true) true fu 23 (([a0, a1, a2, a3, a4, a5, a6, a7].drop 0).take (Tryd.prog.cellsOf 23)) = xs[0]? := hf 0 _ rfl
    have h1 : DataW.trod enc Tryd.prog W 0 (fun _ => true) true fu 3 (([a0, a1, a2, a3, a4, a5, a6, a7].drop 4).take (Tryd.prog.cellsOf 3)) = xs[1]? := hf 1 _ rfl
    have h2 : DataW.trod enc Tryd.prog W 0 (fun _ => true) true fu 3 (([a0, a1, a2, a3, a4, a5, a6, a7].drop 5).take (Tryd.prog.cellsOf 3)) = xs[2]? := hf 2 _ rfl
    have h3 : DataW.trod enc Tryd.prog W 0 (fun _ => true) true fu 24 (([a0, a1, a2, a3, a4, a5, a6, a7].drop 6).take (Tryd.prog.cellsOf 24)) = xs[3]? := hf 3 _ rfl
    have h4 : DataW.trod enc Tryd.prog W 0 (fun _ => true) true fu 24 (([a0, a1, a2, a3, a4, a5, a6, a7].drop 7).take (Tryd.prog.cellsOf 24)) = xs[4]? := hf 4 _ rfl
    rw [tL, List.getElem?_eq_getElem (by omega)] at h0
    rw [tI, List.getElem?_eq_getElem (by omega)] at h1 h2
    rw [tS, List.getElem?_eq_getElem (by omega)] at h3 h4
    obtain ⟨a, b, c, e, q0, q1, q2, q3⟩ := layc_cells (a0 := a0) (a1 := a1) (a2 := a2) (a3 := a3) h0
    obtain ⟨now, e1, _⟩ := DataW.trod_int Tryd.underlying3 h1
    obtain ⟨ttl, e2, _⟩ := DataW.trod_int Tryd.underlying3 h2
    obtain ⟨A, n, p, k, e3, s3, l3, b3⟩ := bytes_field Tryd.underlying24 Tryd.underlying5 (by kernel_rfl) (v := a6) h3
    obtain ⟨A', n', p', k', e4, s4, l4, b4⟩ := bytes_field Tryd.underlying24 Tryd.underlying5 (by kernel_rfl) (v := a7) h4
    have e1' : a4 = .int .i64 now := by simpa using e1
    have e2' : a5 = .int .i64 ttl := by simpa using e2
    subst q0 q1 q2 q3 e1' e2' e3 e4
    exact ⟨a, b, c, e, now, ttl, A, n, p, k, A', n', p', k', rfl, s3, s4, ⟨l3, b3⟩, ⟨l4, b4⟩⟩
end
end Go.Proofs.YtnadbokhcmbcaaaDoor
