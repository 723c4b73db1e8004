/-
  What came in, opened: a place of a frame by value, a place with a payload and a change.
-/
import Derived.Test.YtciaiaacboodeaaDoorRecRows
namespace Go.Proofs.YtciaiaacboodeaaDoor
open Go.ChangeShapes Go.WideShapes Go.ChangeAt Go.RowKit
section
variable {H : Type} {enc : TypeId × Value → H} {W : World}
theorem frplace_cells {fuel : Nat} {a0 a1 a2 : Value} {y : DataW H × List MemPlace} (h : DataW.trod enc Tryd.prog W 0 (fun _ => true) true fuel 33 [a0, a1, a2] = some y) :
    ∃ a b c : Int, a0 = .int .i64 a ∧ a1 = .int .i64 b ∧ a2 = .int .i64 c ∧ b ≤ 9223372036854775807 := by
  obtain ⟨xs, fu, _, _, _, hxl, hf⟩ := DataW.trod_struct Tryd.underlying33 h
  have t0 : Tryd.prog.cellsOf 3 = 1 := by kernel_rfl
  have hxl3 : xs.length = 3 := hxl
  have h0 : DataW.trod enc Tryd.prog W 0 (fun _ => true) true fu 3 (([a0, a1, a2].drop 0).take (Tryd.prog.cellsOf 3)) = xs[0]? := hf 0 _ rfl
  have h1 : DataW.trod enc Tryd.prog W 0 (fun _ => true) true fu 3 (([a0, a1, a2].drop 1).take (Tryd.prog.cellsOf 3)) = xs[1]? := hf 1 _ rfl
  have h2 : DataW.trod enc Tryd.prog W 0 (fun _ => true) true fu 3 (([a0, a1, a2].drop 2).take (Tryd.prog.cellsOf 3)) = xs[2]? := hf 2 _ rfl
  rw [t0, List.getElem?_eq_getElem (by omega)] at h0 h1 h2
  obtain ⟨a, e0, _⟩ := DataW.trod_int Tryd.underlying3 h0
  obtain ⟨b, e1, _, hw⟩ := DataW.trod_int Tryd.underlying3 h1
  obtain ⟨c, e2, _⟩ := DataW.trod_int Tryd.underlying3 h2
  exact ⟨a, b, c, by simpa using e0, by simpa using e1, by simpa using e2, (int_wf64 hw).2⟩
theorem frplace_in {base : Nat} {v : Value} {d : DataW H} {ps : List MemPlace} (hval : Value.okWide Tryd.prog W .any base 33 v) (hd : DataW.Trod enc Tryd.prog W 0 (fun _ => true) true 33 v d ps) :
    ∃ a b c : Int, v = .agg #[.int .i64 a, .int .i64 b, .int .i64 c] ∧ b ≤ 9223372036854775807 := by
  simp only [Value.okWide, Tryd.underlying33] at hval
  obtain ⟨cs, rfl, hsz, _⟩ := hval
  have h3 : Tryd.prog.cellsOf 33 = 3 := by kernel_rfl
  have hlen : cs.toList.length = 3 := by rw [Array.length_toList, hsz, h3]
  obtain ⟨fuel, hf⟩ := hd
  obtain ⟨l⟩ := cs
  match l, hlen with
  | [a0, a1, a2], _ =>
    obtain ⟨a, b, c, rfl, rfl, rfl, hb⟩ := frplace_cells hf
    exact ⟨a, b, c, rfl, hb⟩
theorem torn_in {base : Nat} {v : Value} {d : DataW H} {ps : List MemPlace} (hval : Value.okWide Tryd.prog W .any base 46 v) (hd : DataW.Trod enc Tryd.prog W 0 (fun _ => true) true 46 v d ps) :
    ∃ (k s x at0 : Int) (x0 x1 x2 x3 : Nat) (A : Option Addr) (n c : Nat) (l : List Nat), v = .agg #[.int .i64 k, .int .i64 s, .int .i64 x, .slice A n c, .int .i64 at0, .int .u8 (x0 : Int), .int .u8 (x1 : Int), .int .u8 (x2 : Int), .int .u8 (x3 : Int)] ∧ s ≤ 9223372036854775807 ∧ SlIs A n c ∧ Hid (l.length = n ∧ Bs W W.heap.size A l) ∧ x0 < 256 ∧ x1 < 256 ∧ x2 < 256 ∧ x3 < 256 := by
  simp only [Value.okWide, Tryd.underlying46] at hval
  obtain ⟨cs, rfl, hsz, _⟩ := hval
  have h9 : Tryd.prog.cellsOf 46 = 9 := by kernel_rfl
  have hlen : cs.toList.length = 9 := by rw [Array.length_toList, hsz, h9]
  obtain ⟨fuel, hf⟩ := hd
  obtain ⟨xs, fu, _, _, _, hxl, hf⟩ := DataW.trod_struct Tryd.underlying46 hf
  have tI : Tryd.prog.cellsOf 3 = 1 := by kernel_rfl
  have tS : Tryd.prog.cellsOf 24 = 1 := by kernel_rfl
  have tP : Tryd.prog.cellsOf 33 = 3 := by kernel_rfl
  have tX : Tryd.prog.cellsOf 44 = 4 := by kernel_rfl
  have tE : Tryd.prog.cellsOf 5 = 1 := by kernel_rfl
  have hxl4 : xs.length = 4 := hxl
  obtain ⟨l⟩ := cs
  match l, hlen with
  | [a0, a1, a2, a3, a4, a5, a6, a7, a8], _ =>
    have h0 : DataW.trod enc Tryd.prog W 0 (fun _ => true) true fu 33 (([a0, a1, a2, a3, a4, a5, a6, a7, a8].drop 0).take (Tryd.prog.cellsOf 33)) = xs[0]? := hf 0 _ rfl
    have h1 : DataW.trod enc Tryd.prog W 0 (fun _ => true) true fu 24 (([a0, a1, a2, a3, a4, a5, a6, a7, a8].drop 3).take (Tryd.prog.cellsOf 24)) = xs[1]? := hf 1 _ rfl
    have h2 : DataW.trod enc Tryd.prog W 0 (fun _ => true) true fu 3 (([a0, a1, a2, a3, a4, a5, a6, a7, a8].drop 4).take (Tryd.prog.cellsOf 3)) = xs[2]? := hf 2 _ rfl
    have h3 : DataW.trod enc Tryd.prog W 0 (fun _ => true) true fu 44 (([a0, a1, a2, a3, a4, a5, a6, a7, a8].drop 5).take (Tryd.prog.cellsOf 44)) = xs[3]? := hf 3 _ rfl
    rw [tP, List.getElem?_eq_getElem (by omega)] at h0
    rw [tS, List.getElem?_eq_getElem (by omega)] at h1
    rw [tI, List.getElem?_eq_getElem (by omega)] at h2
    rw [tX, List.getElem?_eq_getElem (by omega)] at h3
    obtain ⟨k, s, x, rfl, rfl, rfl, hs63⟩ := frplace_cells h0
    obtain ⟨A, n, cp, k', rfl, s1, l1, b1⟩ := bytes_field Tryd.underlying24 Tryd.underlying5 (by kernel_rfl) (v := a3) h1
    obtain ⟨at0, e4, _⟩ := DataW.trod_int Tryd.underlying3 h2
    have e4' : a4 = .int .i64 at0 := by simpa using e4
    subst e4'
    obtain ⟨ys, m, _, _, _, hyl, hi⟩ := DataW.trod_array Tryd.underlying44 h3
    have one : ∀ i (hi4 : i < 4) c, [a5, a6, a7, a8][i]? = some c → ∃ z : Nat, c = .int .u8 (z : Int) ∧ z < 256 := by
      intro i hi4 c hc
      have h := hi i hi4
      rw [List.getElem?_eq_getElem (by omega), tE, Nat.mul_one] at h
      have e1 : ((([Value.int .i64 k, .int .i64 s, .int .i64 x, .slice A n cp, .int .i64 at0, a5, a6, a7, a8].drop 5).take 4).drop i).take 1 = [c] := by
        rw [List.take_one, List.head?_drop]
        show ([a5, a6, a7, a8][i]?).toList = [c]
        rw [hc]; rfl
      rw [e1] at h
      obtain ⟨z, hz, _, hw⟩ := DataW.trod_int Tryd.underlying5 h
      obtain ⟨y, rfl, hy⟩ := u8_in hw
      exact ⟨y, by simpa using hz, hy⟩
    obtain ⟨x0, rfl, q0⟩ := one 0 (by omega) a5 rfl
    obtain ⟨x1, rfl, q1⟩ := one 1 (by omega) a6 rfl
    obtain ⟨x2, rfl, q2⟩ := one 2 (by omega) a7 rfl
    obtain ⟨x3, rfl, q3⟩ := one 3 (by omega) a8 rfl
    exact ⟨k, s, x, at0, x0, x1, x2, x3, A, n, cp, k', rfl, hs63, s1, ⟨l1, b1⟩, q0, q1, q2, q3⟩
end
end Go.Proofs.YtciaiaacboodeaaDoor
