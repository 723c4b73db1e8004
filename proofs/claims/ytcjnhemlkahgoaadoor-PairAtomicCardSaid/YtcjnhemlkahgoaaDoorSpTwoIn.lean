/-
  A struct of two superblocks that comes in, opened.
-/
import Derived.Test.YtcjnhemlkahgoaaDoorSbUse
set_option maxRecDepth 100000
namespace Go.Proofs.YtcjnhemlkahgoaaDoor
open Go.RowKit Go.ChangeShapes Go.WideShapes Go.ChangeAt
section
variable {H : Type} {enc : TypeId × Value → H} {W : World}
/-- The cells of a superblock. -/
theorem super_cells {fuel : Nat} {a0 a1 a2 a3 a4 a5 a6 a7 a8 a9 a10 a11 a12 a13 : Value} {yy : DataW H × List MemPlace} (hf : DataW.trod enc Tryd.prog W 0 (fun _ => true) true fuel 27 [a0, a1, a2, a3, a4, a5, a6, a7, a8, a9, a10, a11, a12, a13] = some yy) :
    ∃ (i0 i1 i2 i3 i4 i5 i6 i7 i8 i9 i10 i11 i12 : Int) (A : Option Addr) (n c : Nat) (l : List Sb.L), Hid (SlIs A n c) ∧ Hid (l.length = n ∧ Ls W W.heap.size A l) ∧ [a0, a1, a2, a3, a4, a5, a6, a7, a8, a9, a10, a11, a12, a13] = [.int .i64 i0, .int .i64 i1, .int .i64 i2, .int .i64 i3, .int .i64 i4, .int .i64 i5, .int .i64 i6, .int .i64 i7, .int .i64 i8, .int .i64 i9, .int .i64 i10, .int .i64 i11, .int .i64 i12, .slice A n c] := by
  have tI : Tryd.prog.cellsOf 3 = 1 := by kernel_rfl
  have tL : Tryd.prog.cellsOf 24 = 4 := by kernel_rfl
  have tS : Tryd.prog.cellsOf 25 = 1 := by kernel_rfl
  obtain ⟨xs, fu, _, _, _, hxl, hf⟩ := DataW.trod_struct Tryd.underlying27 hf
  have hxl8 : xs.length = 8 := hxl
  have g0 : DataW.trod enc Tryd.prog W 0 (fun _ => true) true fu 3 (([a0, a1, a2, a3, a4, a5, a6, a7, a8, a9, a10, a11, a12, a13].drop 0).take (Tryd.prog.cellsOf 3)) = xs[0]? := hf 0 _ rfl
  have g1 : DataW.trod enc Tryd.prog W 0 (fun _ => true) true fu 3 (([a0, a1, a2, a3, a4, a5, a6, a7, a8, a9, a10, a11, a12, a13].drop 1).take (Tryd.prog.cellsOf 3)) = xs[1]? := hf 1 _ rfl
  have g2 : DataW.trod enc Tryd.prog W 0 (fun _ => true) true fu 3 (([a0, a1, a2, a3, a4, a5, a6, a7, a8, a9, a10, a11, a12, a13].drop 2).take (Tryd.prog.cellsOf 3)) = xs[2]? := hf 2 _ rfl
  have g3 : DataW.trod enc Tryd.prog W 0 (fun _ => true) true fu 3 (([a0, a1, a2, a3, a4, a5, a6, a7, a8, a9, a10, a11, a12, a13].drop 3).take (Tryd.prog.cellsOf 3)) = xs[3]? := hf 3 _ rfl
  have g4 : DataW.trod enc Tryd.prog W 0 (fun _ => true) true fu 3 (([a0, a1, a2, a3, a4, a5, a6, a7, a8, a9, a10, a11, a12, a13].drop 4).take (Tryd.prog.cellsOf 3)) = xs[4]? := hf 4 _ rfl
  have g5 : DataW.trod enc Tryd.prog W 0 (fun _ => true) true fu 24 (([a0, a1, a2, a3, a4, a5, a6, a7, a8, a9, a10, a11, a12, a13].drop 5).take (Tryd.prog.cellsOf 24)) = xs[5]? := hf 5 _ rfl
  have g6 : DataW.trod enc Tryd.prog W 0 (fun _ => true) true fu 24 (([a0, a1, a2, a3, a4, a5, a6, a7, a8, a9, a10, a11, a12, a13].drop 9).take (Tryd.prog.cellsOf 24)) = xs[6]? := hf 6 _ rfl
  have g7 : DataW.trod enc Tryd.prog W 0 (fun _ => true) true fu 25 (([a0, a1, a2, a3, a4, a5, a6, a7, a8, a9, a10, a11, a12, a13].drop 13).take (Tryd.prog.cellsOf 25)) = xs[7]? := hf 7 _ rfl
  rw [tI, List.getElem?_eq_getElem (by omega)] at g0 g1 g2 g3 g4
  rw [tL, List.getElem?_eq_getElem (by omega)] at g5 g6
  rw [tS, List.getElem?_eq_getElem (by omega)] at g7
  obtain ⟨b0, e0, _⟩ := DataW.trod_int Tryd.underlying3 g0
  obtain ⟨b1, e1, _⟩ := DataW.trod_int Tryd.underlying3 g1
  obtain ⟨b2, e2, _⟩ := DataW.trod_int Tryd.underlying3 g2
  obtain ⟨b3, e3, _⟩ := DataW.trod_int Tryd.underlying3 g3
  obtain ⟨b4, e4, _⟩ := DataW.trod_int Tryd.underlying3 g4
  obtain ⟨t0, t1, t2, t3, rfl, rfl, rfl, rfl⟩ := lay_cells (a0 := a5) (a1 := a6) (a2 := a7) (a3 := a8) g5
  obtain ⟨h0, h1, h2, h3, rfl, rfl, rfl, rfl⟩ := lay_cells (a0 := a9) (a1 := a10) (a2 := a11) (a3 := a12) g6
  obtain ⟨A, n, c, l, rfl, hs, hl, hb⟩ := lays_field (v := a13) g7
  have e0' : a0 = .int .i64 b0 := by simpa using e0
  have e1' : a1 = .int .i64 b1 := by simpa using e1
  have e2' : a2 = .int .i64 b2 := by simpa using e2
  have e3' : a3 = .int .i64 b3 := by simpa using e3
  have e4' : a4 = .int .i64 b4 := by simpa using e4
  subst e0' e1' e2' e3' e4'
  exact ⟨b0, b1, b2, b3, b4, t0, t1, t2, t3, h0, h1, h2, h3, A, n, c, l, hs, ⟨hl, hb⟩, rfl⟩
theorem two_in {base : Nat} {v : Value} {d : DataW H} {ps : List MemPlace} (hval : Value.okWide Tryd.prog W .any base 49 v) (hd : DataW.Trod enc Tryd.prog W 0 (fun _ => true) true 49 v d ps) :
    ∃ (a0 a1 a2 a3 a4 t0 t1 t2 t3 h0 h1 h2 h3 : Int) (A : Option Addr) (n c : Nat) (l : List Sb.L) (b0 b1 b2 b3 b4 u0 u1 u2 u3 g0 g1 g2 g3 : Int) (A' : Option Addr) (n' c' : Nat) (l' : List Sb.L) (x : Int) (y : Bool), Hid (SlIs A n c) ∧ Hid (l.length = n ∧ Ls W W.heap.size A l) ∧ Hid (SlIs A' n' c') ∧ Hid (l'.length = n' ∧ Ls W W.heap.size A' l') ∧ True ∧ v = .agg #[.int .i64 a0, .int .i64 a1, .int .i64 a2, .int .i64 a3, .int .i64 a4, .int .i64 t0, .int .i64 t1, .int .i64 t2, .int .i64 t3, .int .i64 h0, .int .i64 h1, .int .i64 h2, .int .i64 h3, .slice A n c, .int .i64 b0, .int .i64 b1, .int .i64 b2, .int .i64 b3, .int .i64 b4, .int .i64 u0, .int .i64 u1, .int .i64 u2, .int .i64 u3, .int .i64 g0, .int .i64 g1, .int .i64 g2, .int .i64 g3, .slice A' n' c', .int .i64 x, .bool y] := by
  simp only [Value.okWide, Tryd.underlying49] at hval
  obtain ⟨cs, rfl, hsz, _⟩ := hval
  have hc : Tryd.prog.cellsOf 49 = 30 := by kernel_rfl
  have hlen : cs.toList.length = 30 := by rw [Array.length_toList, hsz, hc]
  obtain ⟨fuel, hf⟩ := hd
  have tI : Tryd.prog.cellsOf 3 = 1 := by kernel_rfl
  have tB : Tryd.prog.cellsOf 4 = 1 := by kernel_rfl
  have tS : Tryd.prog.cellsOf 27 = 14 := by kernel_rfl
  obtain ⟨l⟩ := cs
  match l, hlen with
  | [z0, z1, z2, z3, z4, z5, z6, z7, z8, z9, z10, z11, z12, z13, z14, z15, z16, z17, z18, z19, z20, z21, z22, z23, z24, z25, z26, z27, z28, z29], _ =>
    obtain ⟨xs, fu, _, _, _, hxl, hf⟩ := DataW.trod_struct Tryd.underlying49 hf
    have hxl4 : xs.length = 4 := hxl
    have k0 : DataW.trod enc Tryd.prog W 0 (fun _ => true) true fu 27 (([z0, z1, z2, z3, z4, z5, z6, z7, z8, z9, z10, z11, z12, z13, z14, z15, z16, z17, z18, z19, z20, z21, z22, z23, z24, z25, z26, z27, z28, z29].drop 0).take (Tryd.prog.cellsOf 27)) = xs[0]? := hf 0 _ rfl
    have k1 : DataW.trod enc Tryd.prog W 0 (fun _ => true) true fu 27 (([z0, z1, z2, z3, z4, z5, z6, z7, z8, z9, z10, z11, z12, z13, z14, z15, z16, z17, z18, z19, z20, z21, z22, z23, z24, z25, z26, z27, z28, z29].drop 14).take (Tryd.prog.cellsOf 27)) = xs[1]? := hf 1 _ rfl
    have k2 : DataW.trod enc Tryd.prog W 0 (fun _ => true) true fu 3 (([z0, z1, z2, z3, z4, z5, z6, z7, z8, z9, z10, z11, z12, z13, z14, z15, z16, z17, z18, z19, z20, z21, z22, z23, z24, z25, z26, z27, z28, z29].drop 28).take (Tryd.prog.cellsOf 3)) = xs[2]? := hf 2 _ rfl
    have k3 : DataW.trod enc Tryd.prog W 0 (fun _ => true) true fu 4 (([z0, z1, z2, z3, z4, z5, z6, z7, z8, z9, z10, z11, z12, z13, z14, z15, z16, z17, z18, z19, z20, z21, z22, z23, z24, z25, z26, z27, z28, z29].drop 29).take (Tryd.prog.cellsOf 4)) = xs[3]? := hf 3 _ rfl
    rw [tS, List.getElem?_eq_getElem (by omega)] at k0 k1
    rw [tI, List.getElem?_eq_getElem (by omega)] at k2
    rw [tB, List.getElem?_eq_getElem (by omega)] at k3
    have k0' : DataW.trod enc Tryd.prog W 0 (fun _ => true) true fu 27 [z0, z1, z2, z3, z4, z5, z6, z7, z8, z9, z10, z11, z12, z13] = some xs[0] := k0
    have k1' : DataW.trod enc Tryd.prog W 0 (fun _ => true) true fu 27 [z14, z15, z16, z17, z18, z19, z20, z21, z22, z23, z24, z25, z26, z27] = some xs[1] := k1
    obtain ⟨a0, a1, a2, a3, a4, t0, t1, t2, t3, h0, h1, h2, h3, A, n, c, l, hs, hl, e0⟩ := super_cells k0'
    obtain ⟨b0, b1, b2, b3, b4, u0, u1, u2, u3, g0, g1, g2, g3, A', n', c', l', hs', hl', e1⟩ := super_cells k1'
    obtain ⟨x, e2, _⟩ := DataW.trod_int Tryd.underlying3 k2
    obtain ⟨y, e3, _⟩ := DataW.trod_bool Tryd.underlying4 k3
    have e2' : z28 = .int .i64 x := by simpa using e2
    have e3' : z29 = .bool y := by simpa using e3
    simp only [List.cons.injEq, and_true] at e0 e1
    obtain ⟨rfl, rfl, rfl, rfl, rfl, rfl, rfl, rfl, rfl, rfl, rfl, rfl, rfl, rfl⟩ := e0
    obtain ⟨rfl, rfl, rfl, rfl, rfl, rfl, rfl, rfl, rfl, rfl, rfl, rfl, rfl, rfl⟩ := e1
    subst e2' e3'
    exact ⟨a0, a1, a2, a3, a4, t0, t1, t2, t3, h0, h1, h2, h3, A, n, c, l, b0, b1, b2, b3, b4, u0, u1, u2, u3, g0, g1, g2, g3, A', n', c', l', x, y, hs, hl, hs', hl', trivial, rfl⟩
end
end Go.Proofs.YtcjnhemlkahgoaaDoor
