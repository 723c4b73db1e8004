/-
  What came in, opened: the calls of the statements on queues, keys with expiries, whole numbers.
-/
import Derived.Test.YtkhmimdigdjajaaStrIn
import Derived.Test.YtkhmimdigdjajaaShapeIn
set_option maxRecDepth 100000
namespace Go.Proofs.Ytkhmimdigdjajaa
open Go.ChangeShapes Go.WideShapes Go.ChangeAt Go.RowKit
/-- A call of the statements: Kind, N, Key. -/
structure QOp where
  kd : Int
  n : Int
  k : ByteArray
def qopc (p : QOp) : List Value := [.int .i64 p.kd, .int .i64 p.n, .string p.k]
def qopS : Shape QOp := ⟨qopc, ⟨0, 0, ⟨#[]⟩⟩, 3, fun _ => rfl, by decide, fun p u hu => by
  simp only [qopc, List.mem_cons, List.not_mem_nil, or_false] at hu
  rcases hu with rfl | rfl | rfl <;> rfl⟩
theorem qops_at {w : World} {lo B : Nat} {ad : Addr} {L : List QOp} (h : Arr qopS w lo B (some ad) L) (i : Nat) (hi : i < L.length) (p : QOp) (e : L.getD i qopS.z = p) :
    w.cell? (ad.add (i * 3)) = some (.int .i64 p.kd) ∧ w.cell? ⟨(ad.add (i * 3)).block, (ad.add (i * 3)).off + 1, none⟩ = some (.int .i64 p.n) ∧ w.cell? ⟨(ad.add (i * 3)).block, (ad.add (i * 3)).off + 2, none⟩ = some (.string p.k) := by
  have h4 : ∀ j v, (qopc p)[j]? = some v → w.cell? (ad.add (i * 3 + j)) = some v := fun j v hv => h.cell i hi j v (by rw [e]; exact hv)
  have g : ∀ j, 0 < j → ∀ v, (qopc p)[j]? = some v → w.cell? ⟨(ad.add (i * 3)).block, (ad.add (i * 3)).off + j, none⟩ = some v := fun j hj v hv => by
    have := h4 j v hv
    rwa [at_field _ _ _ hj] at this
  exact ⟨h4 0 _ rfl, g 1 (by decide) _ rfl, g 2 (by decide) _ rfl⟩
section
variable {H : Type} {enc : TypeId × Value → H} {W : World}
theorem nums_in {base : Nat} {v : Value} {d : DataW H} {ps : List MemPlace} (hval : Value.okWide Try.prog W .any base 43 v) (hd : DataW.Trod enc Try.prog W 0 (fun _ => true) true 43 v d ps) :
    ∃ A n cap l, v = .slice A n cap ∧ SlIs A n cap ∧ Hid (l.length = n) ∧ Hid (Arr intS W 0 W.heap.size A l) := by
  refine shape_in intS Try.underlying43 (show _ = 1 by kernel_rfl) (fun {fuel cs y} hlen h2 => ?_) hval hd
  obtain ⟨s, e, _⟩ := DataW.trod_int Try.underlying3 h2
  exact ⟨s, e⟩
theorem qop_cells {fuel : Nat} {a0 a1 a2 : Value} {y : DataW H × List MemPlace} (h : DataW.trod enc Try.prog W 0 (fun _ => true) true fuel 30 [a0, a1, a2] = some y) :
    ∃ p, [a0, a1, a2] = qopc p := by
  obtain ⟨xs, fu, _, _, _, hxl, hf⟩ := DataW.trod_struct Try.underlying30 h
  have tI : Try.prog.cellsOf 3 = 1 := by kernel_rfl
  have tS : Try.prog.cellsOf 9 = 1 := by kernel_rfl
  have hxlk : xs.length = 3 := hxl
  have h0 : DataW.trod enc Try.prog W 0 (fun _ => true) true fu 3 (([a0, a1, a2].drop 0).take (Try.prog.cellsOf 3)) = xs[0]? := hf 0 _ rfl
  rw [tI, List.getElem?_eq_getElem (by omega)] at h0
  have h1 : DataW.trod enc Try.prog W 0 (fun _ => true) true fu 3 (([a0, a1, a2].drop 1).take (Try.prog.cellsOf 3)) = xs[1]? := hf 1 _ rfl
  rw [tI, List.getElem?_eq_getElem (by omega)] at h1
  have h2 : DataW.trod enc Try.prog W 0 (fun _ => true) true fu 9 (([a0, a1, a2].drop 2).take (Try.prog.cellsOf 9)) = xs[2]? := hf 2 _ rfl
  rw [tS, List.getElem?_eq_getElem (by omega)] at h2
  obtain ⟨b0, e0, _⟩ := DataW.trod_int Try.underlying3 h0
  obtain ⟨b1, e1, _⟩ := DataW.trod_int Try.underlying3 h1
  obtain ⟨b2, e2, _⟩ := DataW.trod_string Try.underlying9 h2
  have e0' : a0 = .int .i64 b0 := by simpa using e0
  have e1' : a1 = .int .i64 b1 := by simpa using e1
  have e2' : a2 = .string b2 := by simpa using e2
  subst e0' e1' e2'
  exact ⟨⟨b0, b1, b2⟩, rfl⟩
theorem qops_in {base : Nat} {v : Value} {d : DataW H} {ps : List MemPlace} (hval : Value.okWide Try.prog W .any base 22 v) (hd : DataW.Trod enc Try.prog W 0 (fun _ => true) true 22 v d ps) :
    ∃ A n cap l, v = .slice A n cap ∧ SlIs A n cap ∧ Hid (l.length = n) ∧ Hid (Arr qopS W 0 W.heap.size A l) := by
  refine shape_in qopS Try.underlying22 (show _ = 3 by kernel_rfl) (fun {fuel cs y} hlen h2 => ?_) hval hd
  match cs, hlen with
  | [v0, v1, v2], _ => exact qop_cells h2
theorem order_in {base : Nat} {v : Value} {d : DataW H} {ps : List MemPlace} (hval : Value.okWide Try.prog W .any base 45 v) (hd : DataW.Trod enc Try.prog W 0 (fun _ => true) true 45 v d ps) :
    ∃ (A1 : Option Addr) (n1 c1 : Nat) (l1 : List ByteArray) (A2 : Option Addr) (n2 c2 : Nat) (l2 : List Int) (xa xb : Int), v = .agg #[.slice A1 n1 c1, .slice A2 n2 c2, .int .i64 xa, .int .i64 xb] ∧ SlIs A1 n1 c1 ∧ SlIs A2 n2 c2 ∧ Hid (l1.length = n1) ∧ Hid (Arr strS W 0 W.heap.size A1 l1) ∧ Hid (l2.length = n2) ∧ Hid (Arr intS W 0 W.heap.size A2 l2) := by
  simp only [Value.okWide, Try.underlying45] at hval
  obtain ⟨cs, rfl, hsz, _⟩ := hval
  have hk : Try.prog.cellsOf 45 = 4 := by kernel_rfl
  have hlen : cs.toList.length = 4 := by rw [Array.length_toList, hsz, hk]
  obtain ⟨fuel, hf⟩ := hd
  obtain ⟨xs, fu, _, _, _, hxl, hf⟩ := DataW.trod_struct Try.underlying45 hf
  have tI : Try.prog.cellsOf 3 = 1 := by kernel_rfl
  have tS : Try.prog.cellsOf 34 = 1 := by kernel_rfl
  have tN : Try.prog.cellsOf 43 = 1 := by kernel_rfl
  have hxl4 : xs.length = 4 := hxl
  obtain ⟨l⟩ := cs
  match l, hlen with
  | [a0, a1, a2, a3], _ =>
    have h0 : DataW.trod enc Try.prog W 0 (fun _ => true) true fu 34 (([a0, a1, a2, a3].drop 0).take (Try.prog.cellsOf 34)) = xs[0]? := hf 0 _ rfl
    have h1 : DataW.trod enc Try.prog W 0 (fun _ => true) true fu 43 (([a0, a1, a2, a3].drop 1).take (Try.prog.cellsOf 43)) = xs[1]? := hf 1 _ rfl
    have h2 : DataW.trod enc Try.prog W 0 (fun _ => true) true fu 3 (([a0, a1, a2, a3].drop 2).take (Try.prog.cellsOf 3)) = xs[2]? := hf 2 _ rfl
    have h3 : DataW.trod enc Try.prog W 0 (fun _ => true) true fu 3 (([a0, a1, a2, a3].drop 3).take (Try.prog.cellsOf 3)) = xs[3]? := hf 3 _ rfl
    rw [tI, List.getElem?_eq_getElem (by omega)] at h2 h3
    rw [tS, List.getElem?_eq_getElem (by omega)] at h0
    rw [tN, List.getElem?_eq_getElem (by omega)] at h1
    obtain ⟨x2, e2, _⟩ := DataW.trod_int Try.underlying3 h2
    obtain ⟨x3, e3, _⟩ := DataW.trod_int Try.underlying3 h3
    have e2' : a2 = .int .i64 x2 := by simpa using e2
    have e3' : a3 = .int .i64 x3 := by simpa using e3
    obtain ⟨A1, n1, c1, l1, ea, g1, g2, g3, -⟩ := shape_trod strS (fun _ => True) (v := a0) Try.underlying34 (show _ = 1 by kernel_rfl) (fun {fuel cs y} hlen h2 => by
      obtain ⟨s, e, _⟩ := DataW.trod_string Try.underlying9 h2
      exact ⟨s, e, trivial⟩) h0
    obtain ⟨A2, n2, c2, l2, eb, i1, i2, i3, -⟩ := shape_trod intS (fun _ => True) (v := a1) Try.underlying43 (show _ = 1 by kernel_rfl) (fun {fuel cs y} hlen h2 => by
      obtain ⟨s, e, _⟩ := DataW.trod_int Try.underlying3 h2
      exact ⟨s, e, trivial⟩) h1
    subst e2' e3' ea eb
    exact ⟨A1, n1, c1, l1, A2, n2, c2, l2, x2, x3, rfl, g1, i1, g2, g3, i2, i3⟩
end
end Go.Proofs.Ytkhmimdigdjajaa
