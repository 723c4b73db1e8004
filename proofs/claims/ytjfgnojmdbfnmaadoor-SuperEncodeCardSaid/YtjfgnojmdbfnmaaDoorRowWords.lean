/-
  What the rows' proofs share: a slice of bytes that came in, opened; a 32-bit number as a vector.
-/
import Derived.Test.YtjfgnojmdbfnmaaDoorWords
import Derived.ProofKit
import Derived.OpenShut
import Derived.Below
import Derived.Carry
namespace Go.Proofs.YtjfgnojmdbfnmaaDoor
open Go.ChangeShapes Go.WideShapes Go.ChangeAt Go.RowKit

section
variable {H : Type} {enc : TypeId × Value → H} {P : Program} {W : World}
/-- A slice of bytes that came in: nil, or it leads to cells that hold bytes. -/
theorem bytes_in {base : Nat} {t e : TypeId} {v : Value} {d : DataW H} {ps : List MemPlace} (ht : P.underlying t = some (.slice e)) (he : P.underlying e = some (.int .u8)) (hc : P.cellsOf e = 1)
    (hval : Value.okWide P W .any base t v) (hd : DataW.Trod enc P W 0 (fun _ => true) true t v d ps) :
    ∃ (A : Option Addr) (n cap : Nat) (l : List Nat), v = .slice A n cap ∧ (A = none → cap = 0 ∧ n = 0) ∧ Hid (l.length = n) ∧ n ≤ cap ∧ cap ≤ 9223372036854775807 ∧ Hid (Bs W W.heap.size A l) := by
  obtain ⟨A, n, cap, rfl⟩ := okWide_slice ht hval
  obtain ⟨fuel, hf⟩ := hd
  rcases open_ints ht he hc hf with ⟨hcs, _⟩ | ⟨x, len', cap', zs, hcs, _, hl, hm, hz, _, hcell, hwz⟩
  · simp [Value.cells] at hcs
    obtain ⟨rfl, rfl, rfl⟩ := hcs
    exact ⟨none, 0, 0, [], rfl, fun _ => ⟨rfl, rfl⟩, rfl, Nat.le_refl _, by omega, fun k hk => absurd hk (by simp)⟩
  · simp [Value.cells] at hcs
    obtain ⟨rfl, rfl, rfl⟩ := hcs
    have hz' : zs.length = cap := by simpa using hz
    have hlen : ((zs.take n).map Int.toNat).length = n := by rw [List.length_map, List.length_take]; omega
    refine ⟨some x, n, cap, (zs.take n).map Int.toNat, rfl, (fun h => by cases h), hlen, hl, by unfold maxLen at hm; exact hm, fun k hk => ?_⟩
    have hkn : k < n := by omega
    have hkz : k < zs.length := by omega
    have e1 : ((zs.take n).map Int.toNat).getD k 0 = (zs.getD k 0).toNat := by
      rw [List.getD_eq_getElem?_getD, List.getElem?_map, List.getElem?_take_of_lt hkn, List.getD_eq_getElem?_getD, List.getElem?_eq_getElem hkz]; rfl
    have hw := hwz _ (List.getElem_mem hkz)
    have e2 : zs.getD k 0 = zs[k] := by rw [List.getD_eq_getElem?_getD, List.getElem?_eq_getElem hkz]; rfl
    have hb : 0 ≤ zs.getD k 0 ∧ zs.getD k 0 ≤ 255 := by
      rw [e2]
      have := hw
      simp only [Lit.wf, Bool.and_eq_true, decide_eq_true_eq] at this
      simp [IntKind.min, IntKind.max, IntKind.signed, IntKind.bits] at this
      omega
    rw [e1]
    have hcl := hcell k hkz
    refine ⟨by omega, x, rfl, ?_, by rw [hcl, Int.toNat_of_nonneg hb.1]⟩
    have := World.block_lt_of_cell? W _ hcl
    rwa [add_block] at this
/-- An array of four numbers, by value. -/
theorem arr4_in {base : Nat} {t e : TypeId} {k : IntKind} {v : Value} {d : DataW H} {ps : List MemPlace} (ht : P.underlying t = some (.array 4 e)) (he : P.underlying e = some (.int k)) (hce : P.cellsOf e = 1) (hct : P.cellsOf t = 4)
    (hval : Value.okWide P W .any base t v) (hd : DataW.Trod enc P W 0 (fun _ => true) true t v d ps) :
    ∃ z0 z1 z2 z3 : Int, v = .agg #[.int k z0, .int k z1, .int k z2, .int k z3] ∧ (Lit.int k z0).wf = true ∧ (Lit.int k z1).wf = true ∧ (Lit.int k z2).wf = true ∧ (Lit.int k z3).wf = true := by
  simp only [Value.okWide, ht] at hval
  obtain ⟨cs, rfl, hsz, _⟩ := hval
  have hlen : cs.toList.length = 4 := by rw [Array.length_toList, hsz, hct]
  obtain ⟨fuel, hf⟩ := hd
  obtain ⟨xs, m, _, _, _, hxl, hi⟩ := DataW.trod_array ht hf
  obtain ⟨l⟩ := cs
  match l, hlen with
  | [c0, c1, c2, c3], _ =>
    have one : ∀ i (hi4 : i < 4) c, (Value.cells (.agg #[c0, c1, c2, c3])).toList[i]? = some c → ∃ z, c = .int k z ∧ (Lit.int k z).wf = true := by
      intro i hi4 c hc
      have h := hi i hi4
      rw [List.getElem?_eq_getElem (by omega), hce, Nat.mul_one] at h
      have e1 : ((Value.cells (.agg #[c0, c1, c2, c3])).toList.drop i).take 1 = [c] := by
        rw [List.take_one, List.head?_drop, hc]; rfl
      rw [e1] at h
      obtain ⟨z, hz, _, hw⟩ := DataW.trod_int he h
      exact ⟨z, by simpa using hz, hw⟩
    obtain ⟨z0, rfl, h0⟩ := one 0 (by omega) c0 rfl
    obtain ⟨z1, rfl, h1⟩ := one 1 (by omega) c1 rfl
    obtain ⟨z2, rfl, h2⟩ := one 2 (by omega) c2 rfl
    obtain ⟨z3, rfl, h3⟩ := one 3 (by omega) c3 rfl
    exact ⟨z0, z1, z2, z3, rfl, h0, h1, h2, h3⟩
end
theorem u8_in {x : Int} (h : (Lit.int .u8 x).wf = true) : ∃ k : Nat, x = (k : Int) ∧ k < 256 := by
  simp only [Lit.wf, Bool.and_eq_true, decide_eq_true_eq] at h
  simp [IntKind.min, IntKind.max, IntKind.signed, IntKind.bits] at h
  exact ⟨x.toNat, by omega, by omega⟩
theorem u32_in {x : Int} (h : (Lit.int .u32 x).wf = true) : 0 ≤ x ∧ x < 4294967296 := by
  simp only [Lit.wf, Bool.and_eq_true, decide_eq_true_eq] at h
  simp [IntKind.min, IntKind.max, IntKind.signed, IntKind.bits] at h
  omega
theorem u64_in {x : Int} (h : (Lit.int .u64 x).wf = true) : ∃ k : Nat, x = (k : Int) ∧ k < 18446744073709551616 := by
  simp only [Lit.wf, Bool.and_eq_true, decide_eq_true_eq] at h
  simp [IntKind.min, IntKind.max, IntKind.signed, IntKind.bits] at h
  exact ⟨x.toNat, by omega, by omega⟩
end Go.Proofs.YtjfgnojmdbfnmaaDoor
