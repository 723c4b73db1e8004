/-
  What came in, opened: bools, pairs, and structs that hold slices.
-/
import Derived.Test.YtfacinlpkblopaaRowWords
import Derived.Test.YtfacinlpkblopaaFlashKeep
import Derived.Deep.SlicePairs
import Derived.Deep.Grids
namespace Go.Proofs.Ytfacinlpkblopaa
open Go.ChangeShapes Go.WideShapes Go.ChangeAt Go.RowKit
/-- A slice value that came in: nil, or with bounds. -/
def SlOk (A : Option Addr) (n cap : Nat) : Prop := (A = none → cap = 0 ∧ n = 0) ∧ n ≤ cap ∧ cap ≤ 9223372036854775807
section
variable {H : Type} {enc : TypeId × Value → H} {P : Program} {W : World}
theorem bytes_trod {t e : TypeId} {v : Value} {fuel : Nat} {x : DataW H × List MemPlace} (ht : P.underlying t = some (.slice e)) (he : P.underlying e = some (.int .u8)) (hc : P.cellsOf e = 1)
    (h : DataW.trod enc P W 0 (fun _ => true) true fuel t [v] = some x) : ∃ A n cap l, v = .slice A n cap ∧ SlOk A n cap ∧ l.length = n ∧ Bs W W.heap.size A l := by
  rcases open_ints ht he hc h with ⟨hcs, _⟩ | ⟨a, n, cap, zs, hcs, _, hl, hm, hz, _, hcell, hwz⟩
  · injection hcs with hcs
    exact ⟨none, 0, 0, [], hcs, ⟨fun _ => ⟨rfl, rfl⟩, Nat.le_refl _, by omega⟩, rfl, fun k hk => absurd hk (by simp)⟩
  · injection hcs with hcs
    have hz' : zs.length = cap := by simpa using hz
    have hlen : ((zs.take n).map Int.toNat).length = n := by rw [List.length_map, List.length_take]; omega
    refine ⟨some a, n, cap, _, hcs, ⟨(fun h => by cases h), hl, by unfold maxLen at hm; exact hm⟩, hlen, fun k hk => ?_⟩
    have hkn : k < n := by omega
    have hkz : k < zs.length := by omega
    have e2 : zs.getD k 0 = zs[k] := by rw [List.getD_eq_getElem?_getD, List.getElem?_eq_getElem hkz]; rfl
    have e1 : ((zs.take n).map Int.toNat).getD k 0 = (zs.getD k 0).toNat := by
      rw [List.getD_eq_getElem?_getD, List.getElem?_map, List.getElem?_take_of_lt hkn, e2, List.getElem?_eq_getElem hkz]; rfl
    obtain ⟨y, hy, hy2⟩ := u8_in (hwz _ (List.getElem_mem hkz))
    rw [e1, e2, hy, Int.toNat_natCast]
    have hcl := hcell k hkz
    rw [e2, hy] at hcl
    refine ⟨hy2, a, rfl, ?_, hcl⟩
    have := World.block_lt_of_cell? W _ hcl
    rwa [add_block] at this
theorem bools_trod {t e : TypeId} {v : Value} {fuel : Nat} {x : DataW H × List MemPlace} (ht : P.underlying t = some (.slice e)) (he : P.underlying e = some .bool) (hc : P.cellsOf e = 1)
    (h : DataW.trod enc P W 0 (fun _ => true) true fuel t [v] = some x) : ∃ A n cap l, v = .slice A n cap ∧ SlOk A n cap ∧ l.length = n ∧ Bls W W.heap.size A l := by
  rcases Go.Deep.open_bools ht he hc h with ⟨hcs, _⟩ | ⟨a, n, cap, B, hcs, _, hl, hm, _, hcell⟩
  · injection hcs with hcs
    exact ⟨none, 0, 0, [], hcs, ⟨fun _ => ⟨rfl, rfl⟩, Nat.le_refl _, by omega⟩, rfl, fun k hk => absurd hk (by simp)⟩
  · injection hcs with hcs
    refine ⟨some a, n, cap, (List.range n).map B, hcs, ⟨(fun h => by cases h), hl, by unfold maxLen at hm; exact hm⟩, by simp, fun k hk => ?_⟩
    have hkn : k < n := by simpa using hk
    have hcl := hcell k (by omega)
    have e : ((List.range n).map B).getD k false = B k := by
      rw [List.getD_eq_getElem?_getD, List.getElem?_map, List.getElem?_range hkn]; rfl
    rw [e]
    refine ⟨a, rfl, ?_, hcl⟩
    have := World.block_lt_of_cell? W _ hcl
    rwa [add_block] at this
theorem tears_trod {t e : TypeId} {f0 f1 : Field} {v : Value} {fuel : Nat} {x : DataW H × List MemPlace} (ht : P.underlying t = some (.slice e)) (he : P.underlying e = some (.struct #[f0, f1]))
    (ce : P.cellsOf e = 2) (o0 : f0.offset = 0) (o1 : f1.offset = 1) (c0 : P.cellsOf f0.type = 1) (c1 : P.cellsOf f1.type = 1) (k0 : P.underlying f0.type = some (.int .i64)) (k1 : P.underlying f1.type = some (.int .i64))
    (h : DataW.trod enc P W 0 (fun _ => true) true fuel t [v] = some x) : ∃ A n cap l, v = .slice A n cap ∧ SlOk A n cap ∧ l.length = n ∧ Trs W W.heap.size A l := by
  rcases Go.Deep.open_slice_pairs ht he ce o0 o1 c0 c1 h with ⟨hcs, _⟩ | ⟨a, n, cap, m, q, V0, V1, D0, D1, P0, P1, hcs, _, hl, hm, hmm, _, hx⟩
  · injection hcs with hcs
    exact ⟨none, 0, 0, [], hcs, ⟨fun _ => ⟨rfl, rfl⟩, Nat.le_refl _, by omega⟩, rfl, fun k hk => absurd hk (by simp)⟩
  · injection hcs with hcs
    simp only [if_true] at hmm
    have num : ∀ k, k < n → ∃ p : Int × Int, W.cell? (a.add (k * 2)) = some (.int .i64 p.1) ∧ W.cell? (a.add (k * 2 + 1)) = some (.int .i64 p.2) := fun k hk => by
      obtain ⟨h1, h2, h3, h4⟩ := hx k (by omega)
      obtain ⟨p, hp, _⟩ := DataW.trod_int k0 h3
      obtain ⟨q, hq, _⟩ := DataW.trod_int k1 h4
      injection hp with hp
      injection hq with hq
      exact ⟨(p, q), by rw [h1, hp], by rw [h2, hq]⟩
    refine ⟨some a, n, cap, (List.range n).map fun k => if h : k < n then Classical.choose (num k h) else (0, 0), hcs, ⟨(fun h => by cases h), hl, by unfold maxLen at hm; exact hm⟩, by simp, fun k hk => ?_⟩
    have hkn : k < n := by simpa using hk
    have e : ((List.range n).map fun k => if h : k < n then Classical.choose (num k h) else ((0, 0) : Int × Int)).getD k (0, 0) = Classical.choose (num k hkn) := by
      rw [List.getD_eq_getElem?_getD, List.getElem?_map, List.getElem?_range hkn]
      show (if h : k < n then Classical.choose (num k h) else ((0, 0) : Int × Int)) = _
      rw [dif_pos hkn]
    rw [e]
    obtain ⟨h1, h2⟩ := Classical.choose_spec (num k hkn)
    refine ⟨a, rfl, ?_, h1, h2⟩
    have := World.block_lt_of_cell? W _ h1
    rwa [add_block] at this
theorem one_field {cs : List Value} {j : Nat} (hj : j < cs.length) : (cs.drop j).take 1 = [cs[j]] := by
  rw [List.take_one, List.head?_drop, List.getElem?_eq_getElem hj]; rfl
end
/-- The call k of a law's list: two numbers, bytes, bools and tears. -/
structure OpIs (w : World) (B : Nat) (ad : Addr) (kd ix : Int) (Ab : Option Addr) (nb cb : Nat) (lb : List Nat) (Ak : Option Addr) (nk ck : Nat) (lk : List Bool) (At : Option Addr) (nt ct : Nat) (lt : List (Int × Int)) : Prop where
  blk : ad.block < B
  c0 : w.cell? (ad.add 0) = some (.int .i64 kd)
  c1 : w.cell? (ad.add 1) = some (.int .i64 ix)
  c2 : w.cell? (ad.add 2) = some (.slice Ab nb cb)
  c3 : w.cell? (ad.add 3) = some (.slice Ak nk ck)
  c4 : w.cell? (ad.add 4) = some (.slice At nt ct)
  ib : -9223372036854775808 ≤ ix ∧ ix ≤ 9223372036854775807
  sb : SlOk Ab nb cb
  lb_ : lb.length = nb
  bs : Bs w B Ab lb
  sk : SlOk Ak nk ck
  lk_ : lk.length = nk
  bls : Bls w B Ak lk
  st : SlOk At nt ct
  lt_ : lt.length = nt
  trs : Trs w B At lt
/-- All calls of a law's list. -/
def OpsAt (w : World) (B : Nat) (A : Option Addr) (n : Nat) : Prop :=
  ∀ k, k < n → ∃ ad kd ix Ab nb cb lb Ak nk ck lk At nt ct lt, A = some ad ∧ OpIs w B (ad.add (k * 5)) kd ix Ab nb cb lb Ak nk ck lk At nt ct lt
theorem OpIs.below {w w' : World} {B C : Nat} {ad : Addr} {kd ix : Int} {Ab : Option Addr} {nb cb : Nat} {lb : List Nat} {Ak : Option Addr} {nk ck : Nat} {lk : List Bool} {At : Option Addr} {nt ct : Nat} {lt : List (Int × Int)}
    (h : OpIs w B ad kd ix Ab nb cb lb Ak nk ck lk At nt ct lt) (hb : Below C w w') (hB : B ≤ C) : OpIs w' B ad kd ix Ab nb cb lb Ak nk ck lk At nt ct lt := by
  have q : ∀ j, w'.cell? (ad.add j) = w.cell? (ad.add j) := fun j => hb.cell (by rw [add_block]; have := h.blk; omega)
  exact ⟨h.blk, (q 0).trans h.c0, (q 1).trans h.c1, (q 2).trans h.c2, (q 3).trans h.c3, (q 4).trans h.c4, h.ib, h.sb, h.lb_, h.bs.below hb hB, h.sk, h.lk_, h.bls.below hb hB, h.st, h.lt_, h.trs.below hb hB⟩
theorem OpsAt.below {w w' : World} {B C : Nat} {A : Option Addr} {n : Nat} (h : OpsAt w B A n) (hb : Below C w w') (hB : B ≤ C) : OpsAt w' B A n := fun k hk => by
  obtain ⟨ad, kd, ix, Ab, nb, cb, lb, Ak, nk, ck, lk, At, nt, ct, lt, e, h1⟩ := h k hk
  exact ⟨ad, kd, ix, Ab, nb, cb, lb, Ak, nk, ck, lk, At, nt, ct, lt, e, h1.below hb hB⟩
theorem i64_in {x : Int} (h : (Lit.int .i64 x).wf = true) : -9223372036854775808 ≤ x ∧ x ≤ 9223372036854775807 := by
  simp only [Lit.wf, Bool.and_eq_true, decide_eq_true_eq] at h
  simp [IntKind.min, IntKind.max, IntKind.signed, IntKind.bits] at h
  omega
section
variable {H : Type} {enc : TypeId × Value → H} {W : World}
theorem bools_in {base : Nat} {v : Value} {d : DataW H} {ps : List MemPlace} (hval : Value.okWide Try.prog W .any base 28 v) (hd : DataW.Trod enc Try.prog W 0 (fun _ => true) true 28 v d ps) :
    ∃ A n cap l, v = .slice A n cap ∧ SlOk A n cap ∧ Hid (l.length = n) ∧ Hid (Bls W W.heap.size A l) := by
  obtain ⟨A, n, cap, rfl⟩ := okWide_slice Try.underlying28 hval
  obtain ⟨fuel, hf⟩ := hd
  exact bools_trod Try.underlying28 Try.underlying4 (by kernel_rfl) hf
theorem tears_in {base : Nat} {v : Value} {d : DataW H} {ps : List MemPlace} (hval : Value.okWide Try.prog W .any base 29 v) (hd : DataW.Trod enc Try.prog W 0 (fun _ => true) true 29 v d ps) :
    ∃ A n cap l, v = .slice A n cap ∧ SlOk A n cap ∧ Hid (l.length = n) ∧ Hid (Trs W W.heap.size A l) := by
  obtain ⟨A, n, cap, rfl⟩ := okWide_slice Try.underlying29 hval
  obtain ⟨fuel, hf⟩ := hd
  exact tears_trod Try.underlying29 Try.underlying69 (by kernel_rfl) rfl rfl (by kernel_rfl) (by kernel_rfl) (by kernel_rfl) (by kernel_rfl) hf
theorem ops_in {base : Nat} {v : Value} {d : DataW H} {ps : List MemPlace} (hval : Value.okWide Try.prog W .any base 22 v) (hd : DataW.Trod enc Try.prog W 0 (fun _ => true) true 22 v d ps) :
    ∃ A n cap, v = .slice A n cap ∧ SlOk A n cap ∧ Hid (OpsAt W W.heap.size A n) := by
  obtain ⟨A, n, cap, rfl⟩ := okWide_slice Try.underlying22 hval
  obtain ⟨fuel, hf⟩ := hd
  rcases Go.Deep.open_slice Try.underlying22 hf with ⟨hcs, _⟩ | ⟨a, len, cap', m, q, D, Pl, hcs, _, hl, hm, hmm, _, hx⟩
  · simp [Value.cells] at hcs
    obtain ⟨rfl, rfl, rfl⟩ := hcs
    exact ⟨none, 0, 0, rfl, ⟨fun _ => ⟨rfl, rfl⟩, Nat.le_refl _, by omega⟩, fun k hk => absurd hk (by omega)⟩
  · simp [Value.cells] at hcs
    obtain ⟨rfl, rfl, rfl⟩ := hcs
    refine ⟨some a, n, cap, rfl, ⟨(fun h => by cases h), hl, by unfold maxLen at hm; exact hm⟩, fun k hk => ?_⟩
    simp only [if_true] at hmm
    obtain ⟨cs, hc, htr⟩ := hx k (by omega)
    have h5 : Try.prog.cellsOf 31 = 5 := by kernel_rfl
    rw [h5] at hc
    obtain ⟨_, hlen, hcell⟩ := World.cells?_some hc
    obtain ⟨xs, fu, _, _, _, hxl, hf⟩ := DataW.trod_struct Try.underlying31 htr
    have t0 : Try.prog.cellsOf 3 = 1 := by kernel_rfl
    have t2 : Try.prog.cellsOf 27 = 1 := by kernel_rfl
    have t3 : Try.prog.cellsOf 28 = 1 := by kernel_rfl
    have t4 : Try.prog.cellsOf 29 = 1 := by kernel_rfl
    have hxl5 : xs.length = 5 := hxl
    have h0 : DataW.trod enc Try.prog W 0 (fun _ => true) true fu 3 ((cs.drop 0).take (Try.prog.cellsOf 3)) = xs[0]? := hf 0 _ rfl
    have h1 : DataW.trod enc Try.prog W 0 (fun _ => true) true fu 3 ((cs.drop 1).take (Try.prog.cellsOf 3)) = xs[1]? := hf 1 _ rfl
    have h2 : DataW.trod enc Try.prog W 0 (fun _ => true) true fu 27 ((cs.drop 2).take (Try.prog.cellsOf 27)) = xs[2]? := hf 2 _ rfl
    have h3 : DataW.trod enc Try.prog W 0 (fun _ => true) true fu 28 ((cs.drop 3).take (Try.prog.cellsOf 28)) = xs[3]? := hf 3 _ rfl
    have h4 : DataW.trod enc Try.prog W 0 (fun _ => true) true fu 29 ((cs.drop 4).take (Try.prog.cellsOf 29)) = xs[4]? := hf 4 _ rfl
    rw [t0, one_field (by omega), List.getElem?_eq_getElem (by omega)] at h0 h1
    rw [t2, one_field (by omega), List.getElem?_eq_getElem (by omega)] at h2
    rw [t3, one_field (by omega), List.getElem?_eq_getElem (by omega)] at h3
    rw [t4, one_field (by omega), List.getElem?_eq_getElem (by omega)] at h4
    obtain ⟨kd, ek, _⟩ := DataW.trod_int Try.underlying3 h0
    obtain ⟨ix, ei, _, hwi⟩ := DataW.trod_int Try.underlying3 h1
    obtain ⟨Ab, nb, cb, lb, eb, sb, lbl, bs⟩ := bytes_trod Try.underlying27 Try.underlying5 (by kernel_rfl) h2
    obtain ⟨Ak, nk, ck, lk, ekk, sk, lkl, bls⟩ := bools_trod Try.underlying28 Try.underlying4 (by kernel_rfl) h3
    obtain ⟨At, nt, ct, lt, et, st, ltl, trs⟩ := tears_trod Try.underlying29 Try.underlying69 (by kernel_rfl) rfl rfl (by kernel_rfl) (by kernel_rfl) (by kernel_rfl) (by kernel_rfl) h4
    injection ek with ek
    injection ei with ei
    have cell : ∀ j (hj : j < 5), W.cell? ((a.add (k * 5)).add j) = some (cs[j]'(by omega)) := fun j hj => by
      rw [hcell j hj, List.getElem?_eq_getElem (by omega)]
    have q0 := cell 0 (by omega)
    have q1 := cell 1 (by omega)
    have q2 := cell 2 (by omega)
    have q3 := cell 3 (by omega)
    have q4 := cell 4 (by omega)
    rw [ek] at q0
    rw [ei] at q1
    rw [eb] at q2
    rw [ekk] at q3
    rw [et] at q4
    refine ⟨a, kd, ix, Ab, nb, cb, lb, Ak, nk, ck, lk, At, nt, ct, lt, rfl, ?_, q0, q1, q2, q3, q4, i64_in hwi, sb, lbl, bs, sk, lkl, bls, st, ltl, trs⟩
    have := World.block_lt_of_cell? W _ q0
    rwa [add_block] at this
end
end Go.Proofs.Ytfacinlpkblopaa
