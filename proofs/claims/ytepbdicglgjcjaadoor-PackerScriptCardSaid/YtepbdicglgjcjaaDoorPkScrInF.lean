/-
  What came in, opened: a place and calls of a packer; the calls' numbers are integers of the machine.
-/
import Derived.Test.YtepbdicglgjcjaaDoorFoldI
set_option maxRecDepth 100000
namespace Go.Proofs.YtepbdicglgjcjaaDoor
open Go.ChangeShapes Go.WideShapes Go.ChangeAt Go.RowKit
section
variable {H : Type} {enc : TypeId × Value → H} {W : World}
theorem cl_cells2 {fuel : Nat} {a0 a1 a2 a3 a4 a5 a6 : Value} {y : DataW H × List MemPlace} (h : DataW.trod enc Tryd.prog W 0 (fun _ => true) true fuel 40 [a0, a1, a2, a3, a4, a5, a6] = some y) :
    ∃ o : Cl, [a0, a1, a2, a3, a4, a5, a6] = clS.cs o ∧ (o.r.here W W.heap.size ∧ o.off ≤ 9223372036854775807) := by
  obtain ⟨xs, fu, _, _, _, hxl, hf⟩ := DataW.trod_struct Tryd.underlying40 h
  have tI : Tryd.prog.cellsOf 3 = 1 := by kernel_rfl
  have tR : Tryd.prog.cellsOf 38 = 4 := by kernel_rfl
  have hxl4 : xs.length = 4 := hxl
  have h0 : DataW.trod enc Tryd.prog W 0 (fun _ => true) true fu 3 (([a0, a1, a2, a3, a4, a5, a6].drop 0).take (Tryd.prog.cellsOf 3)) = xs[0]? := hf 0 _ rfl
  have h1 : DataW.trod enc Tryd.prog W 0 (fun _ => true) true fu 38 (([a0, a1, a2, a3, a4, a5, a6].drop 1).take (Tryd.prog.cellsOf 38)) = xs[1]? := hf 1 _ rfl
  have h2 : DataW.trod enc Tryd.prog W 0 (fun _ => true) true fu 3 (([a0, a1, a2, a3, a4, a5, a6].drop 5).take (Tryd.prog.cellsOf 3)) = xs[2]? := hf 2 _ rfl
  have h3 : DataW.trod enc Tryd.prog W 0 (fun _ => true) true fu 3 (([a0, a1, a2, a3, a4, a5, a6].drop 6).take (Tryd.prog.cellsOf 3)) = xs[3]? := hf 3 _ rfl
  rw [tI, List.getElem?_eq_getElem (by omega)] at h0 h2 h3
  rw [tR, List.getElem?_eq_getElem (by omega)] at h1
  obtain ⟨kd, e0, _⟩ := DataW.trod_int Tryd.underlying3 h0
  obtain ⟨off, e2, _, hw⟩ := DataW.trod_int Tryd.underlying3 h2
  obtain ⟨n, e3, _⟩ := DataW.trod_int Tryd.underlying3 h3
  obtain ⟨r, er, hr⟩ := rec_cells (a0 := a1) (a1 := a2) (a2 := a3) (a3 := a4) h1
  have e0' : a0 = .int .i64 kd := by simpa using e0
  have e2' : a5 = .int .i64 off := by simpa using e2
  have e3' : a6 = .int .i64 n := by simpa using e3
  injection er with r0 er
  injection er with r1 er
  injection er with r2 er
  injection er with r3 er
  subst e0' e2' e3' r0 r1 r2 r3
  exact ⟨⟨kd, r, off, n⟩, rfl, hr, (int_wf64 hw).2⟩
theorem script_in2 {base : Nat} {v : Value} {d : DataW H} {ps : List MemPlace} (hval : Value.okWide Tryd.prog W .any base 26 v) (hd : DataW.Trod enc Tryd.prog W 0 (fun _ => true) true 26 v d ps) :
    ∃ (a b c e slot seq : Int) (A : Option Addr) (n cap : Nat) (l : List Cl), v = .agg #[.int .i64 a, .int .i64 b, .int .i64 c, .int .i64 e, .int .i64 slot, .int .i64 seq, .slice A n cap] ∧ SlIs A n cap ∧ Hid (l.length = n) ∧ Hid (ClsAt W W.heap.size A l ∧ ∀ k, k < n → (l.getD k Cl0).off ≤ 9223372036854775807) := by
  simp only [Value.okWide, Tryd.underlying26] at hval
  obtain ⟨cs, rfl, hsz, _⟩ := hval
  have hk : Tryd.prog.cellsOf 26 = 7 := by kernel_rfl
  have hlen : cs.toList.length = 7 := by rw [Array.length_toList, hsz, hk]
  obtain ⟨fuel, hf⟩ := hd
  obtain ⟨xs, fu, _, _, _, hxl, hf⟩ := DataW.trod_struct Tryd.underlying26 hf
  have tI : Tryd.prog.cellsOf 3 = 1 := by kernel_rfl
  have tL : Tryd.prog.cellsOf 23 = 4 := by kernel_rfl
  have tO : Tryd.prog.cellsOf 24 = 1 := by kernel_rfl
  have hxl4 : xs.length = 4 := hxl
  obtain ⟨l⟩ := cs
  match l, hlen with
  | [a0, a1, a2, a3, a4, a5, a6], _ =>
    have h0 : DataW.trod enc Tryd.prog W 0 (fun _ => true) true fu 23 (([a0, a1, a2, a3, a4, a5, a6].drop 0).take (Tryd.prog.cellsOf 23)) = xs[0]? := hf 0 _ rfl
    have h1 : DataW.trod enc Tryd.prog W 0 (fun _ => true) true fu 3 (([a0, a1, a2, a3, a4, a5, a6].drop 4).take (Tryd.prog.cellsOf 3)) = xs[1]? := hf 1 _ rfl
    have h2 : DataW.trod enc Tryd.prog W 0 (fun _ => true) true fu 3 (([a0, a1, a2, a3, a4, a5, a6].drop 5).take (Tryd.prog.cellsOf 3)) = xs[2]? := hf 2 _ rfl
    have h3 : DataW.trod enc Tryd.prog W 0 (fun _ => true) true fu 24 (([a0, a1, a2, a3, a4, a5, a6].drop 6).take (Tryd.prog.cellsOf 24)) = xs[3]? := hf 3 _ rfl
    rw [tL, List.getElem?_eq_getElem (by omega)] at h0
    rw [tI, List.getElem?_eq_getElem (by omega)] at h1 h2
    rw [tO, List.getElem?_eq_getElem (by omega)] at h3
    obtain ⟨a, b, c, e, q0, q1, q2, q3⟩ := layc_cells (a0 := a0) (a1 := a1) (a2 := a2) (a3 := a3) h0
    obtain ⟨slot, e1, _⟩ := DataW.trod_int Tryd.underlying3 h1
    obtain ⟨seq, e2, _⟩ := DataW.trod_int Tryd.underlying3 h2
    have e1' : a4 = .int .i64 slot := by simpa using e1
    have e2' : a5 = .int .i64 seq := by simpa using e2
    obtain ⟨A, n, cap, l, ea, g1, g2, g3, g4⟩ := shape_trod clS (fun o => o.r.here W W.heap.size ∧ o.off ≤ 9223372036854775807) (v := a6) Tryd.underlying24 (show _ = 7 by kernel_rfl) (fun {fuel cs y} hlen h2 => by
      match cs, hlen with
      | [v0, v1, v2, v3, v4, v5, v6], _ => exact cl_cells2 h2) h3
    subst q0 q1 q2 q3 e1' e2' ea
    exact ⟨a, b, c, e, slot, seq, A, n, cap, l, rfl, g1, g2, ⟨g3, fun k hk => (g4 k (by omega)).1⟩, fun k hk => (g4 k (by omega)).2⟩
end
end Go.Proofs.YtepbdicglgjcjaaDoor
