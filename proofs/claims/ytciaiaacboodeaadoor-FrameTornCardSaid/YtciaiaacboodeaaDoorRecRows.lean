/-
  What came in, opened: a record by value, a place by value.
-/
import Derived.Test.YtciaiaacboodeaaDoorRowWords
import Derived.Test.YtciaiaacboodeaaDoorRecWords
import Derived.Deep.Grids
namespace Go.Proofs.YtciaiaacboodeaaDoor
open Go.ChangeShapes Go.WideShapes Go.ChangeAt Go.RowKit
theorem field_one {cs : List Value} {j : Nat} (hj : j < cs.length) : (cs.drop j).take 1 = [cs[j]] := by
  rw [List.take_one, List.head?_drop, List.getElem?_eq_getElem hj]; rfl
theorem int_wf64 {x : Int} (h : (Lit.int .i64 x).wf = true) : -9223372036854775808 ≤ x ∧ x ≤ 9223372036854775807 := by
  simp only [Lit.wf, Bool.and_eq_true, decide_eq_true_eq] at h
  simp [IntKind.min, IntKind.max, IntKind.signed, IntKind.bits] at h
  omega
section
variable {H : Type} {enc : TypeId × Value → H} {P : Program} {W : World}
theorem bytes_field {t e : TypeId} {v : Value} {fuel : Nat} {x : DataW H × List MemPlace} (ht : P.underlying t = some (.slice e)) (he : P.underlying e = some (.int .u8)) (hc : P.cellsOf e = 1)
    (h : DataW.trod enc P W 0 (fun _ => true) true fuel t [v] = some x) : ∃ A n cap l, v = .slice A n cap ∧ SlIs A n cap ∧ l.length = n ∧ Bs W W.heap.size A l := by
  rcases open_ints ht he hc h with ⟨hcs, _⟩ | ⟨a, n, cap, zs, hcs, _, hl, hm, hz, _, hcell, hwz⟩
  · injection hcs with hcs
    exact ⟨none, 0, 0, [], hcs, ⟨fun _ => ⟨rfl, rfl⟩, Nat.le_refl _, by omega⟩, rfl, fun k hk => absurd hk (by simp)⟩
  · injection hcs with hcs
    have hz' : zs.length = cap := by simpa using hz
    have hlen : ((zs.take n).map Int.toNat).length = n := by rw [List.length_map, List.length_take]; omega
    refine ⟨some a, n, cap, _, hcs, ⟨(fun h => by cases h), hl, by unfold maxLen at hm; exact hm⟩, hlen, fun k hk => ?_⟩
    have hkn : k < n := by omega
    have hkz : k < zs.length := by omega
    have e2 : zs.getD k 0 = zs[k] := by rw [List.getD_eq_getElem?_getD, List.getElem?_eq_getElem hkz]; rfl
    have e1 : ((zs.take n).map Int.toNat).getD k 0 = (zs.getD k 0).toNat := by
      rw [List.getD_eq_getElem?_getD, List.getElem?_map, List.getElem?_take_of_lt hkn, e2, List.getElem?_eq_getElem hkz]; rfl
    obtain ⟨y, hy, hy2⟩ := u8_in (hwz _ (List.getElem_mem hkz))
    rw [e1, e2, hy, Int.toNat_natCast]
    have hcl := hcell k hkz
    rw [e2, hy] at hcl
    refine ⟨hy2, a, rfl, ?_, hcl⟩
    have := World.block_lt_of_cell? W _ hcl
    rwa [add_block] at this
theorem rec_in {base : Nat} {v : Value} {d : DataW H} {ps : List MemPlace} (hval : Value.okWide Tryd.prog W .any base 26 v) (hd : DataW.Trod enc Tryd.prog W 0 (fun _ => true) true 26 v d ps) :
    ∃ kd A n c k A' n' c' l x, v = .agg #[.int .i64 kd, .slice A n c, .slice A' n' c', .int .i64 x] ∧ SlIs A n c ∧ SlIs A' n' c' ∧ Hid (k.length = n ∧ Bs W W.heap.size A k) ∧ Hid (l.length = n' ∧ Bs W W.heap.size A' l) := by
  simp only [Value.okWide, Tryd.underlying26] at hval
  obtain ⟨cs, rfl, hsz, _⟩ := hval
  have h4 : Tryd.prog.cellsOf 26 = 4 := by kernel_rfl
  have hlen : cs.toList.length = 4 := by rw [Array.length_toList, hsz, h4]
  obtain ⟨fuel, hf⟩ := hd
  obtain ⟨xs, fu, _, _, _, hxl, hf⟩ := DataW.trod_struct Tryd.underlying26 hf
  have t0 : Tryd.prog.cellsOf 3 = 1 := by kernel_rfl
  have t2 : Tryd.prog.cellsOf 24 = 1 := by kernel_rfl
  have hxl4 : xs.length = 4 := hxl
  obtain ⟨l⟩ := cs
  match l, hlen with
  | [a0, a1, a2, a3], _ =>
    have h0 : DataW.trod enc Tryd.prog W 0 (fun _ => true) true fu 3 (([a0, a1, a2, a3].drop 0).take (Tryd.prog.cellsOf 3)) = xs[0]? := hf 0 _ rfl
    have h1 : DataW.trod enc Tryd.prog W 0 (fun _ => true) true fu 24 (([a0, a1, a2, a3].drop 1).take (Tryd.prog.cellsOf 24)) = xs[1]? := hf 1 _ rfl
    have h2 : DataW.trod enc Tryd.prog W 0 (fun _ => true) true fu 24 (([a0, a1, a2, a3].drop 2).take (Tryd.prog.cellsOf 24)) = xs[2]? := hf 2 _ rfl
    have h3 : DataW.trod enc Tryd.prog W 0 (fun _ => true) true fu 3 (([a0, a1, a2, a3].drop 3).take (Tryd.prog.cellsOf 3)) = xs[3]? := hf 3 _ rfl
    rw [t0, List.getElem?_eq_getElem (by omega)] at h0 h3
    rw [t2, List.getElem?_eq_getElem (by omega)] at h1 h2
    obtain ⟨kd, ek, _⟩ := DataW.trod_int Tryd.underlying3 h0
    obtain ⟨x, ex, _⟩ := DataW.trod_int Tryd.underlying3 h3
    obtain ⟨A, n, c, k, e1, s1, l1, b1⟩ := bytes_field Tryd.underlying24 Tryd.underlying5 (by kernel_rfl) (v := a1) h1
    obtain ⟨A', n', c', k', e2, s2, l2, b2⟩ := bytes_field Tryd.underlying24 Tryd.underlying5 (by kernel_rfl) (v := a2) h2
    have ek' : a0 = .int .i64 kd := by simpa using ek
    have ex' : a3 = .int .i64 x := by simpa using ex
    subst ek' ex' e1 e2
    exact ⟨kd, A, n, c, k, A', n', c', k', x, rfl, s1, s2, ⟨l1, b1⟩, ⟨l2, b2⟩⟩
theorem place_in {base : Nat} {v : Value} {d : DataW H} {ps : List MemPlace} (hval : Value.okWide Tryd.prog W .any base 23 v) (hd : DataW.Trod enc Tryd.prog W 0 (fun _ => true) true 23 v d ps) :
    ∃ a b c : Int, v = .agg #[.int .i64 a, .int .i64 b, .int .i64 c] ∧ b ≤ 9223372036854775807 := by
  simp only [Value.okWide, Tryd.underlying23] at hval
  obtain ⟨cs, rfl, hsz, _⟩ := hval
  have h3 : Tryd.prog.cellsOf 23 = 3 := by kernel_rfl
  have hlen : cs.toList.length = 3 := by rw [Array.length_toList, hsz, h3]
  obtain ⟨fuel, hf⟩ := hd
  obtain ⟨xs, fu, _, _, _, hxl, hf⟩ := DataW.trod_struct Tryd.underlying23 hf
  have t0 : Tryd.prog.cellsOf 3 = 1 := by kernel_rfl
  have hxl3 : xs.length = 3 := hxl
  obtain ⟨l⟩ := cs
  match l, hlen with
  | [a0, a1, a2], _ =>
    have h0 : DataW.trod enc Tryd.prog W 0 (fun _ => true) true fu 3 (([a0, a1, a2].drop 0).take (Tryd.prog.cellsOf 3)) = xs[0]? := hf 0 _ rfl
    have h1 : DataW.trod enc Tryd.prog W 0 (fun _ => true) true fu 3 (([a0, a1, a2].drop 1).take (Tryd.prog.cellsOf 3)) = xs[1]? := hf 1 _ rfl
    have h2 : DataW.trod enc Tryd.prog W 0 (fun _ => true) true fu 3 (([a0, a1, a2].drop 2).take (Tryd.prog.cellsOf 3)) = xs[2]? := hf 2 _ rfl
    rw [t0, List.getElem?_eq_getElem (by omega)] at h0 h1 h2
    obtain ⟨a, e0, _⟩ := DataW.trod_int Tryd.underlying3 h0
    obtain ⟨b, e1, _, hw⟩ := DataW.trod_int Tryd.underlying3 h1
    obtain ⟨c, e2, _⟩ := DataW.trod_int Tryd.underlying3 h2
    have e0' : a0 = .int .i64 a := by simpa using e0
    have e1' : a1 = .int .i64 b := by simpa using e1
    have e2' : a2 = .int .i64 c := by simpa using e2
    subst e0' e1' e2'
    exact ⟨a, b, c, rfl, (int_wf64 hw).2⟩
end
end Go.Proofs.YtciaiaacboodeaaDoor
