/-
  Words: Words on memory that the walks share: bytes read through a slice, nil or not; append onto a row of the call's own.
  RowWords: What the rows' proofs share: a slice of bytes that came in, opened; a 32-bit number as a vector.
  CrcMath: Plain mathematics of CRC-32C on 32-bit vectors: the one-bit step is linear and one-to-one, four and eight steps, messages, products of polynomials. No program is named here.
  CrcBits: The walk's integer operations on 32-bit numbers, said of vectors. No function of the program is named here.
  CrcWalk: The walks of the checksum functions: what each call returns, said of plain vectors; none of them changes memory.
  CrcLaws: The walks of the statements on checksums: each returns true and leaves all old memory as it was.
  WireMath: Plain mathematics of big-endian numbers: the bytes of a number, the number of bytes. Nothing of the program.
  WireWords: Words on a reader of bytes: its block, the bytes that are left, what other blocks keep.
  WireWalk: The walks of package wire: what each call returns and what becomes of the reader, said of plain lists of bytes.
  WirePut: The walk of wire.Put: a copy of the bytes, and the number's bytes behind them.
  WireRef: The walks of the reference of layer 2: its Put, its Num, its comparison of bytes.
  RecMath: Plain mathematics of records: the check, the head, the bytes at a place, and what is read back. Nothing of the program.
  Small: Small words that many layers share: values of slices and records, boxes that stay, bytes compared and cloned, appends, what a call leaves; no record is spoken of.
-/
import Derived.WalkKit
import Derived.WalkSpells
import Derived.WalkLawsBesides
import Derived.Lib.Hide
import Derived.Laws.AppendOwnNone
import Derived.Deep.Draws
import Derived.ProofKit
import Derived.OpenShut
import Derived.Below
import Derived.Carry
import Derived.Laws.BitsAllLaws
import Derived.Test.YtcdomlgnfbdeoaaRows
import Derived.Outline
import Derived.Deep.LoopGhost
import Derived.Lib.SlBytesConst
import Derived.Deep.QuietTactic
import Derived.BigQuiet
import Derived.Laws.BitsLemmas
import Derived.Laws.Bits64
import Derived.Deep.AppendLies
import Derived.OwnWalk
import Derived.Laws.CopyOwn
import Derived.Deep.RegionHeld3
import Derived.Deep.Grids
import Derived.Laws.ResultCell
import Derived.Laws.BytesArg
import Derived.Laws.BytesString
import Derived.Lib.Bytes
import Derived.Lib.AppendZerosOnto
import Derived.Laws.Rows
import Derived.ArgAppend
import Derived.Laws.OwnMore
import Derived.BigRegion
import Derived.RegionTactic
section
namespace Go.Proofs.Ytcdomlgnfbdeoaa
open Go.RowKit

theorem ret_int {k : IntKind} {a b : Int} (h : a = b) : Ending.returned (.int k a) = .returned (.int k b) := by rw [h]
theorem add_block (a : Addr) (n : Nat) : (a.add n).block = a.block := by unfold Addr.add; split <;> rfl

/-- A slice's bytes, read below block B. -/
def Bs (w : World) (B : Nat) (A : Option Addr) (l : List Nat) : Prop := ∀ k, k < l.length → l.getD k 0 < 256 ∧ ∃ ad, A = some ad ∧ ad.block < B ∧ w.cell? (ad.add k) = some (.int .u8 ((l.getD k 0 : Nat) : Int))
theorem take_next (l : List Nat) (k x : Nat) (hk : k < l.length) (hx : l.getD k 0 = x) : l.take (k + 1) = l.take k ++ [x] := by
  rw [List.take_succ_eq_append_getElem hk]
  rw [List.getD_eq_getElem?_getD, List.getElem?_eq_getElem hk] at hx
  rw [← hx]; rfl
theorem Bs.below {B C : Nat} {w w' : World} {A : Option Addr} {l : List Nat} (h : Bs w B A l) (hb : Below C w w') (hB : B ≤ C) : Bs w' B A l := fun k hk => by
  obtain ⟨h1, ad, h2, h3, h4⟩ := h k hk
  exact ⟨h1, ad, h2, h3, (hb.cell (by rw [add_block]; omega)).trans h4⟩
theorem Bs.more {B C : Nat} {w : World} {A : Option Addr} {l : List Nat} (h : Bs w B A l) (hB : B ≤ C) : Bs w C A l := fun k hk => by
  obtain ⟨h1, ad, h2, h3, h4⟩ := h k hk
  exact ⟨h1, ad, h2, by omega, h4⟩
theorem Bs.take {B : Nat} {w : World} {A : Option Addr} {l : List Nat} (h : Bs w B A l) (n : Nat) : Bs w B A (l.take n) := fun k hk => by
  rw [List.length_take] at hk
  have e : (l.take n).getD k 0 = l.getD k 0 := by
    rw [List.getD_eq_getElem?_getD, List.getD_eq_getElem?_getD, List.getElem?_take_of_lt (by omega)]
  rw [e]
  exact h k (by omega)
theorem Bs.grown {B : Nat} {w w' : World} {A : Option Addr} {l : List Nat} {row : Option Nat} (h : Bs w B A l) (hg : w.grownBy w' row) (hr : ∀ g, row = some g → B ≤ g) : Bs w' B A l := fun k hk => by
  obtain ⟨h1, ad, h2, h3, h4⟩ := h k hk
  refine ⟨h1, ad, h2, h3, hg.cell h4 (fun e => ?_)⟩
  have := hr _ e.symm
  rw [add_block] at this
  omega
theorem Bs.lt {B : Nat} {w : World} {A : Option Addr} {l : List Nat} (h : Bs w B A l) : ∀ x ∈ l, x < 256 := fun x hx => by
  obtain ⟨k, hk, rfl⟩ := List.getElem_of_mem hx
  have := (h k hk).1
  rwa [List.getD_eq_getElem?_getD, List.getElem?_eq_getElem hk] at this
/-- Bytes as values. -/
def vals (l : List Nat) : List Value := l.map fun x => .int .u8 ((x : Nat) : Int)
theorem vals_length (l : List Nat) : (vals l).length = l.length := by unfold vals; rw [List.length_map]
theorem vals_append (l m : List Nat) : vals (l ++ m) = vals l ++ vals m := by unfold vals; rw [List.map_append]
theorem vals_one (l : List Nat) : ∀ u ∈ vals l, u.oneCell' = true := by
  intro u hu
  unfold vals at hu
  obtain ⟨x, _, rfl⟩ := List.mem_map.1 hu
  rfl
theorem vals_get {l : List Nat} {j : Nat} {u : Value} (h : (vals l)[j]? = some u) : j < l.length ∧ u = .int .u8 ((l.getD j 0 : Nat) : Int) := by
  unfold vals at h
  rw [List.getElem?_map] at h
  cases hj : l[j]? with
  | none => rw [hj] at h; cases h
  | some y =>
    rw [hj] at h
    have hl : j < l.length := by
      rcases Nat.lt_or_ge j l.length with h2 | h2
      · exact h2
      · rw [List.getElem?_eq_none h2] at hj; cases hj
    refine ⟨hl, ?_⟩
    rw [List.getD_eq_getElem?_getD, hj]
    exact (Option.some.inj h).symm
theorem vals_at {l : List Nat} {j : Nat} (hj : j < l.length) : (vals l)[j]? = some (.int .u8 ((l.getD j 0 : Nat) : Int)) := by
  unfold vals
  rw [List.getElem?_map, List.getElem?_eq_getElem hj, List.getD_eq_getElem?_getD, List.getElem?_eq_getElem hj]; rfl
theorem vals_set (l : List Nat) (j x : Nat) : (vals l).set j (.int .u8 ((x : Nat) : Int)) = vals (l.set j x) := by
  unfold vals; rw [List.map_set]
theorem getD_lt {l : List Nat} (h : ∀ x ∈ l, x < 256) (j : Nat) : l.getD j 0 < 256 := by
  rw [List.getD_eq_getElem?_getD]
  cases hg : l[j]? with
  | none => decide
  | some y => exact h y (List.mem_of_getElem? hg)
theorem Bs.cells {B : Nat} {w : World} {ad : Addr} {l : List Nat} (h : Bs w B (some ad) l) : ∀ j u, (vals l)[j]? = some u → w.cell? (ad.add j) = some u := by
  intro j u hu
  obtain ⟨hj, rfl⟩ := vals_get hu
  obtain ⟨_, ad', e, _, hc⟩ := h j hj
  injection e with e
  subst e
  exact hc
/-- A row of the call's own, read as bytes: nil, or it begins at the head of a block from 'base' on. -/
theorem own_bytes {w : World} {base : Nat} {e : TypeId} {v : Value} {n : Nat} {l : List Nat} (h : w.ownsRow base e 1 v n (vals l)) (hlt : ∀ x ∈ l, x < 256) :
    ∃ A cap, v = .slice A n cap ∧ Bs w w.heap.size A l ∧ l.length = n ∧ n ≤ cap ∧ cap ≤ maxLen ∧ ((A = none ∧ n = 0 ∧ cap = 0) ∨ ∃ g, A = some ⟨g, 0, none⟩ ∧ base ≤ g ∧ g < w.heap.size) := by
  have hl : l.length = n := by have := h.1; rw [vals_length] at this; omega
  rcases h.2 with ⟨rfl, rfl⟩ | ⟨g, cap, cur, rfl, hb, hg, hnc, hcm, _, _⟩
  · exact ⟨none, 0, rfl, fun k hk => absurd hk (by omega), hl, Nat.le_refl _, by unfold maxLen; omega, .inl ⟨rfl, rfl, rfl⟩⟩
  · have hgl : g < w.heap.size := (h.lt g rfl).2
    refine ⟨some ⟨g, 0, none⟩, cap, rfl, fun k hk => ?_, hl, hnc, hcm, .inr ⟨g, rfl, hb, hgl⟩⟩
    have hx : l[k] = l.getD k 0 := by rw [List.getD_eq_getElem?_getD, List.getElem?_eq_getElem hk]; rfl
    refine ⟨by rw [← hx]; exact hlt _ (List.getElem_mem hk), _, rfl, hgl, ?_⟩
    refine h.cells (g := g) rfl k _ ?_
    unfold vals
    rw [List.getElem?_map, List.getElem?_eq_getElem hk, hx]; rfl

section
variable {P : Program} {w : World}
/-- 'append(out, xs...)': out the call's own, xs nil, empty or not; the operation may stand behind a guard that says yes. -/
theorem append_onto {ops : Array Oper} {rest : List Oper} {o : Oper} {a : Act} {Q : Exit → Act → World → Prop} (hgd : Region.wanted o (yielded ops a.tmps) = true) (s x : Operand) (t : TypeId)
    (ho : o.op = .call { callee := .builtin .append, args := #[s, x], argTypes := #[t, t] })
    (base : Nat) (e : TypeId) (i : TypeInfo) (z : Value) (size bytes : Nat) (ht : P.underlying t = some (.slice e)) (hi : P.info? e = some i) (hz : i.zero = some z)
    (hsize : i.size = size) (hby : i.bytes = bytes) (hzs : z.cells.size = size) (hsz : 0 < size)
    (v : Value) (n : Nat) (xs : List Value) (hs : a.eval s = v) (hown : w.ownsRow base e size v n xs)
    (A : Option Addr) (m c : Nat) (news : List Value) (hx : a.eval x = .slice A m c) (hA : A = none → m = 0 ∧ c = 0) (hl : news.length = m * size)
    (hnews : ∀ ad, A = some ad → ∀ j u, news[j]? = some u → w.cell? (ad.add j) = some u) (h1 : ∀ u ∈ news, u.oneCell' = true)
    (h63 : n + m ≤ maxLen) (hbytes : (n + m) * bytes ≤ 140737488355328) (hbase : base ≤ w.heap.size)
    (h : ∀ v' w', w'.ownsRow base e size v' (n + m) (xs ++ news) → w.grownBy w' v.ownBlock → wpList P ops Q rest (a.put o.dst v') w') : wpList P ops Q (o :: rest) a w := by
  refine BigFrame.wpList_want hgd fun K hK => ?_
  cases A with
  | none =>
    obtain ⟨rfl, rfl⟩ := hA rfl
    have hn : news = [] := List.eq_nil_of_length_eq_zero (by simpa using hl)
    subst hn
    have hrun := run_append_owned_none (P := P) (w := w) base t o.type e i size ht hi v n xs hown
    unfold Oper.wp
    simp [execOp, ho, resolve, invoke, builtin, hs, hx, hrun, Result.andThen]
    exact hK _ _ (h v w (by simpa using hown) ⟨rfl, rfl, rfl, Nat.le_refl _, fun _ _ _ => rfl⟩)
  | some ad =>
    exact wp_append_own w s x t ho base e i z size bytes ht hi hz hsize hby hzs hsz v n xs hs hown ad m c news hx hl (hnews ad rfl) h1 h63 hbytes hbase fun v' w' h2 h3 _ => hK _ _ (h v' w' h2 h3)
end
end Go.Proofs.Ytcdomlgnfbdeoaa
end
section
namespace Go.Proofs.Ytcdomlgnfbdeoaa
open Go.ChangeShapes Go.WideShapes Go.ChangeAt Go.RowKit

section
variable {H : Type} {enc : TypeId × Value → H} {P : Program} {W : World}
/-- A slice of bytes that came in: nil, or it leads to cells that hold bytes. -/
theorem bytes_in {base : Nat} {t e : TypeId} {v : Value} {d : DataW H} {ps : List MemPlace} (ht : P.underlying t = some (.slice e)) (he : P.underlying e = some (.int .u8)) (hc : P.cellsOf e = 1)
    (hval : Value.okWide P W .any base t v) (hd : DataW.Trod enc P W 0 (fun _ => true) true t v d ps) :
    ∃ (A : Option Addr) (n cap : Nat) (l : List Nat), v = .slice A n cap ∧ (A = none → cap = 0 ∧ n = 0) ∧ Hid (l.length = n) ∧ n ≤ cap ∧ cap ≤ 9223372036854775807 ∧ Hid (Bs W W.heap.size A l) := by
  obtain ⟨A, n, cap, rfl⟩ := okWide_slice ht hval
  obtain ⟨fuel, hf⟩ := hd
  rcases open_ints ht he hc hf with ⟨hcs, _⟩ | ⟨x, len', cap', zs, hcs, _, hl, hm, hz, _, hcell, hwz⟩
  · simp [Value.cells] at hcs
    obtain ⟨rfl, rfl, rfl⟩ := hcs
    exact ⟨none, 0, 0, [], rfl, fun _ => ⟨rfl, rfl⟩, rfl, Nat.le_refl _, by omega, fun k hk => absurd hk (by simp)⟩
  · simp [Value.cells] at hcs
    obtain ⟨rfl, rfl, rfl⟩ := hcs
    have hz' : zs.length = cap := by simpa using hz
    have hlen : ((zs.take n).map Int.toNat).length = n := by rw [List.length_map, List.length_take]; omega
    refine ⟨some x, n, cap, (zs.take n).map Int.toNat, rfl, (fun h => by cases h), hlen, hl, by unfold maxLen at hm; exact hm, fun k hk => ?_⟩
    have hkn : k < n := by omega
    have hkz : k < zs.length := by omega
    have e1 : ((zs.take n).map Int.toNat).getD k 0 = (zs.getD k 0).toNat := by
      rw [List.getD_eq_getElem?_getD, List.getElem?_map, List.getElem?_take_of_lt hkn, List.getD_eq_getElem?_getD, List.getElem?_eq_getElem hkz]; rfl
    have hw := hwz _ (List.getElem_mem hkz)
    have e2 : zs.getD k 0 = zs[k] := by rw [List.getD_eq_getElem?_getD, List.getElem?_eq_getElem hkz]; rfl
    have hb : 0 ≤ zs.getD k 0 ∧ zs.getD k 0 ≤ 255 := by
      rw [e2]
      have := hw
      simp only [Lit.wf, Bool.and_eq_true, decide_eq_true_eq] at this
      simp [IntKind.min, IntKind.max, IntKind.signed, IntKind.bits] at this
      omega
    rw [e1]
    have hcl := hcell k hkz
    refine ⟨by omega, x, rfl, ?_, by rw [hcl, Int.toNat_of_nonneg hb.1]⟩
    have := World.block_lt_of_cell? W _ hcl
    rwa [add_block] at this
/-- An array of four numbers, by value. -/
theorem arr4_in {base : Nat} {t e : TypeId} {k : IntKind} {v : Value} {d : DataW H} {ps : List MemPlace} (ht : P.underlying t = some (.array 4 e)) (he : P.underlying e = some (.int k)) (hce : P.cellsOf e = 1) (hct : P.cellsOf t = 4)
    (hval : Value.okWide P W .any base t v) (hd : DataW.Trod enc P W 0 (fun _ => true) true t v d ps) :
    ∃ z0 z1 z2 z3 : Int, v = .agg #[.int k z0, .int k z1, .int k z2, .int k z3] ∧ (Lit.int k z0).wf = true ∧ (Lit.int k z1).wf = true ∧ (Lit.int k z2).wf = true ∧ (Lit.int k z3).wf = true := by
  simp only [Value.okWide, ht] at hval
  obtain ⟨cs, rfl, hsz, _⟩ := hval
  have hlen : cs.toList.length = 4 := by rw [Array.length_toList, hsz, hct]
  obtain ⟨fuel, hf⟩ := hd
  obtain ⟨xs, m, _, _, _, hxl, hi⟩ := DataW.trod_array ht hf
  obtain ⟨l⟩ := cs
  match l, hlen with
  | [c0, c1, c2, c3], _ =>
    have one : ∀ i (hi4 : i < 4) c, (Value.cells (.agg #[c0, c1, c2, c3])).toList[i]? = some c → ∃ z, c = .int k z ∧ (Lit.int k z).wf = true := by
      intro i hi4 c hc
      have h := hi i hi4
      rw [List.getElem?_eq_getElem (by omega), hce, Nat.mul_one] at h
      have e1 : ((Value.cells (.agg #[c0, c1, c2, c3])).toList.drop i).take 1 = [c] := by
        rw [List.take_one, List.head?_drop, hc]; rfl
      rw [e1] at h
      obtain ⟨z, hz, _, hw⟩ := DataW.trod_int he h
      exact ⟨z, by simpa using hz, hw⟩
    obtain ⟨z0, rfl, h0⟩ := one 0 (by omega) c0 rfl
    obtain ⟨z1, rfl, h1⟩ := one 1 (by omega) c1 rfl
    obtain ⟨z2, rfl, h2⟩ := one 2 (by omega) c2 rfl
    obtain ⟨z3, rfl, h3⟩ := one 3 (by omega) c3 rfl
    exact ⟨z0, z1, z2, z3, rfl, h0, h1, h2, h3⟩
end
theorem u8_in {x : Int} (h : (Lit.int .u8 x).wf = true) : ∃ k : Nat, x = (k : Int) ∧ k < 256 := by
  simp only [Lit.wf, Bool.and_eq_true, decide_eq_true_eq] at h
  simp [IntKind.min, IntKind.max, IntKind.signed, IntKind.bits] at h
  exact ⟨x.toNat, by omega, by omega⟩
theorem u32_in {x : Int} (h : (Lit.int .u32 x).wf = true) : 0 ≤ x ∧ x < 4294967296 := by
  simp only [Lit.wf, Bool.and_eq_true, decide_eq_true_eq] at h
  simp [IntKind.min, IntKind.max, IntKind.signed, IntKind.bits] at h
  omega
theorem u64_in {x : Int} (h : (Lit.int .u64 x).wf = true) : ∃ k : Nat, x = (k : Int) ∧ k < 18446744073709551616 := by
  simp only [Lit.wf, Bool.and_eq_true, decide_eq_true_eq] at h
  simp [IntKind.min, IntKind.max, IntKind.signed, IntKind.bits] at h
  exact ⟨x.toNat, by omega, by omega⟩
end Go.Proofs.Ytcdomlgnfbdeoaa
end
section
namespace Go.Proofs.Ytcdomlgnfbdeoaa.Crc

abbrev B32 := BitVec 32
def P : B32 := 0x82F63B78#32
/-- One step: shift right by one bit; the bit that went out adds the polynomial. -/
def st (c : B32) : B32 := (c >>> 1) ^^^ (if c.getLsbD 0 then P else 0#32)
def it : Nat → B32 → B32
  | 0, c => c
  | n + 1, c => it n (st c)

theorem xor_comm4 (a b c d : B32) : (a ^^^ b) ^^^ (c ^^^ d) = (a ^^^ c) ^^^ (b ^^^ d) := by
  rw [BitVec.xor_assoc, BitVec.xor_assoc, ← BitVec.xor_assoc b c d, BitVec.xor_comm b c, BitVec.xor_assoc c b d]

theorem st_xor (a b : B32) : st (a ^^^ b) = st a ^^^ st b := by
  unfold st
  rw [BitVec.ushiftRight_xor_distrib, BitVec.getLsbD_xor, xor_comm4]
  congr 1
  cases a.getLsbD 0 <;> cases b.getLsbD 0 <;> simp
theorem st_zero : st 0#32 = 0#32 := by decide
theorem it_xor (n : Nat) : ∀ a b : B32, it n (a ^^^ b) = it n a ^^^ it n b := by
  induction n with
  | zero => intro a b; rfl
  | succ n ih => intro a b; unfold it; rw [st_xor, ih]
theorem it_zero (n : Nat) : it n 0#32 = 0#32 := by
  induction n with
  | zero => rfl
  | succ n ih => unfold it; rw [st_zero, ih]
theorem it_add (m : Nat) : ∀ (n : Nat) (a : B32), it (m + n) a = it n (it m a) := by
  induction m with
  | zero => intro n a; rw [Nat.zero_add]; rfl
  | succ m ih => intro n a; rw [Nat.succ_add]; exact ih n (st a)
theorem it_succ (n : Nat) (a : B32) : it (n + 1) a = st (it n a) := by rw [it_add]; rfl
theorem it_comm (m n : Nat) (a : B32) : it m (it n a) = it n (it m a) := by rw [← it_add, ← it_add, Nat.add_comm]

/-- The step is one-to-one: the polynomial's highest bit is 1. -/
theorem st_inj0 (a : B32) (h : st a = 0#32) : a = 0#32 := by
  have hb : ∀ i, (st a).getLsbD i = false := by intro i; rw [h]; simp
  have h31 := hb 31
  have e31 : (st a).getLsbD 31 = a.getLsbD 0 := by
    unfold st
    rw [BitVec.getLsbD_xor, BitVec.getLsbD_ushiftRight]
    have : a.getLsbD 32 = false := BitVec.getLsbD_of_ge _ _ (by omega)
    rw [show 1 + 31 = 32 from rfl, this]
    cases a.getLsbD 0 <;> decide
  rw [e31] at h31
  apply BitVec.eq_of_getLsbD_eq
  intro i hi
  cases i with
  | zero => rw [h31]; simp
  | succ i =>
    have := hb i
    unfold st at this
    rw [h31] at this
    simp only [Bool.false_eq_true, if_false, BitVec.xor_zero, BitVec.getLsbD_ushiftRight] at this
    rw [Nat.add_comm] at this
    rw [this]; simp
theorem it_inj0 (n : Nat) : ∀ a : B32, it n a = 0#32 → a = 0#32 := by
  induction n with
  | zero => intro a h; exact h
  | succ n ih => intro a h; exact st_inj0 a (ih _ h)

/-- Where the low n bits are 0, n steps only shift. -/
theorem it_shr (n : Nat) : ∀ a : B32, (∀ i, i < n → a.getLsbD i = false) → it n a = a >>> n := by
  induction n with
  | zero => intro a _; simp [it]
  | succ n ih =>
    intro a h
    have h0 : st a = a >>> 1 := by unfold st; rw [h 0 (by omega)]; simp
    unfold it
    rw [h0, ih (a >>> 1) (by intro i hi; rw [BitVec.getLsbD_ushiftRight]; exact h (1 + i) (by omega))]
    rw [← BitVec.shiftRight_add, Nat.add_comm]

/-- What the table holds: four steps of each low nibble. -/
def tab (k : Nat) : B32 := it 4 (BitVec.ofNat 32 k)
theorem split_low (a : B32) (n : Nat) : a = ((a >>> n) <<< n) ^^^ (a &&& BitVec.ofNat 32 (2 ^ n - 1)) := by
  apply BitVec.eq_of_getLsbD_eq
  intro i hi
  rw [BitVec.getLsbD_xor, BitVec.getLsbD_and, BitVec.getLsbD_shiftLeft, BitVec.getLsbD_ushiftRight, BitVec.getLsbD_ofNat, Nat.testBit_two_pow_sub_one]
  by_cases h : i < n
  · simp [h, hi]
  · simp only [h, hi, decide_true, decide_false, Bool.not_false, Bool.and_true, Bool.true_and, Bool.and_false, Bool.xor_false]
    rw [show n + (i - n) = i by omega]
theorem it4 (a : B32) : it 4 a = (a >>> 4) ^^^ tab (a &&& 15#32).toNat := by
  conv => lhs; rw [split_low a 4]
  rw [it_xor, it_shr 4 _ (by intro i hi; rw [BitVec.getLsbD_shiftLeft]; simp [hi])]
  congr 1
  · apply BitVec.eq_of_getLsbD_eq
    intro i hi
    rw [BitVec.getLsbD_ushiftRight, BitVec.getLsbD_shiftLeft, BitVec.getLsbD_ushiftRight]
    by_cases h : 4 + i < 32
    · simp [h]
    · have : a.getLsbD (4 + i) = false := BitVec.getLsbD_of_ge _ _ (by omega)
      simp [this]
  · unfold tab; rw [BitVec.ofNat_toNat]; simp
theorem low_lt (a : B32) : (a &&& 15#32).toNat < 16 := by
  rw [BitVec.toNat_and]; exact Nat.lt_of_le_of_lt Nat.and_le_right (by decide)

/-- A byte into a state. -/
def byte (x : Nat) : B32 := BitVec.ofNat 32 x
def push (c : B32) (x : Nat) : B32 := it 8 (c ^^^ byte x)
def fold (c : B32) (l : List Nat) : B32 := l.foldl push c
def upd (c : B32) (l : List Nat) : B32 := ~~~ (fold (~~~ c) l)
theorem fold_nil (c : B32) : fold c [] = c := rfl
theorem fold_cons (c : B32) (x : Nat) (l : List Nat) : fold c (x :: l) = fold (push c x) l := rfl
theorem fold_append (c : B32) (l m : List Nat) : fold c (l ++ m) = fold (fold c l) m := by unfold fold; rw [List.foldl_append]
theorem upd_append (c : B32) (l m : List Nat) : upd c (l ++ m) = upd (upd c l) m := by unfold upd; rw [fold_append, BitVec.not_not]
theorem upd_nil (c : B32) : upd c [] = c := by unfold upd; rw [fold_nil, BitVec.not_not]

theorem fold_lin (l : List Nat) : ∀ c d : B32, fold (c ^^^ d) l = it (8 * l.length) c ^^^ fold d l := by
  induction l with
  | nil => intro c d; rfl
  | cons x l ih =>
    intro c d
    rw [fold_cons, fold_cons]
    unfold push
    rw [BitVec.xor_assoc, it_xor, ih, List.length_cons, Nat.mul_add, Nat.mul_one, Nat.add_comm, it_add]

theorem not_xor_ones (c : B32) : ~~~ c = c ^^^ ~~~ 0#32 := by rw [show ~~~ (0#32) = BitVec.allOnes 32 from by decide, BitVec.xor_allOnes]

/-! Bit by bit: the byte is shifted beside the state. -/
def rs (k : Nat) (c : B32) (x : Nat) : B32 := it k (c ^^^ byte x) ^^^ byte (x / 2 ^ k)
theorem rs_zero (c : B32) (x : Nat) : rs 0 c x = c := by
  unfold rs it; rw [Nat.pow_zero, Nat.div_one, BitVec.xor_assoc, BitVec.xor_self, BitVec.xor_zero]
theorem rs_end (c : B32) (x : Nat) (hx : x < 256) : rs 8 c x = push c x := by
  unfold rs push; rw [Nat.div_eq_of_lt (by omega)]; simp [byte]
theorem byte_half (y : Nat) (hy : y < 256) : byte y >>> 1 = byte (y / 2) := by
  apply BitVec.eq_of_toNat_eq
  unfold byte
  rw [BitVec.toNat_ushiftRight, BitVec.toNat_ofNat, BitVec.toNat_ofNat, Nat.mod_eq_of_lt (by omega), Nat.mod_eq_of_lt (by omega), Nat.shiftRight_eq_div_pow]
theorem rs_bit (k : Nat) (c : B32) (x : Nat) : rs k c x ^^^ byte (x / 2 ^ k) = it k (c ^^^ byte x) := by
  unfold rs; rw [BitVec.xor_assoc, BitVec.xor_self, BitVec.xor_zero]
theorem rs_next (k : Nat) (c : B32) (x : Nat) (hx : x < 256) :
    rs (k + 1) c x = (rs k c x >>> 1) ^^^ (if (it k (c ^^^ byte x)).getLsbD 0 then P else 0#32) := by
  unfold rs
  rw [it_succ, BitVec.ushiftRight_xor_distrib, byte_half _ (Nat.lt_of_le_of_lt (Nat.div_le_self _ _) hx), Nat.div_div_eq_div_mul, ← Nat.pow_succ]
  unfold st
  rw [BitVec.xor_assoc, BitVec.xor_assoc]
  congr 1
  exact BitVec.xor_comm _ _

/-- Two checksums make a third: the first one moves on by the second message's bytes. -/
theorem upd_combine (a b : List Nat) : upd 0#32 (a ++ b) = it (8 * b.length) (upd 0#32 a) ^^^ upd 0#32 b := by
  rw [upd_append]
  generalize upd 0#32 a = x
  unfold upd
  rw [not_xor_ones x, fold_lin, not_xor_ones (it _ x ^^^ _), not_xor_ones (fold _ b), BitVec.xor_assoc]

/-- Sixteen words of the table, as the program has them. -/
def words : List Nat := [0, 274646895, 549293790, 820201905, 1098587580, 1361435347, 1640403810, 1905808397, 2197175160, 2460548119, 2722870694, 2987750089, 3280807620, 3553878443, 3811616794, 4084100981]
theorem tab_words : ∀ k, k < 16 → (tab k).toNat = words.getD k 0 := by decide +kernel

/-- The checksum of the digits. -/
theorem digits : upd 0#32 [49, 50, 51, 52, 53, 54, 55, 56, 57] = 3808858755#32 := by decide +kernel

/-! A product of polynomials: bit 31 - i of b counts the i-th step of a. -/
def ev : Nat → B32 → B32 → B32
  | 0, _, _ => 0#32
  | n + 1, a, b => (if b.getLsbD 31 then a else 0#32) ^^^ ev n (st a) (b <<< 1)
def mul (a b : B32) : B32 := ev 32 a b
def one : B32 := 0x80000000#32

theorem ev_next (m p x y : B32) (g : Nat) (h : g ≤ 32 ∧ m = p ^^^ ev g x y ∧ (g = 0 → y = 0#32)) (hy : y ≠ 0#32) :
    ∃ k, g = k + 1 ∧ k < 32 ∧ m = (if y.getLsbD 31 then p ^^^ x else p) ^^^ ev k (st x) (y <<< 1) := by
  obtain ⟨h1, h2, h3⟩ := h
  cases g with
  | zero => exact absurd (h3 rfl) hy
  | succ k =>
    refine ⟨k, rfl, by omega, ?_⟩
    rw [h2]
    conv => lhs; unfold ev
    rw [← BitVec.xor_assoc]
    congr 1
    cases y.getLsbD 31 <;> simp
theorem ev_xor_right (n : Nat) : ∀ a b c : B32, ev n a (b ^^^ c) = ev n a b ^^^ ev n a c := by
  induction n with
  | zero => intro a b c; simp [ev]
  | succ n ih =>
    intro a b c
    unfold ev
    rw [BitVec.shiftLeft_xor_distrib, ih, BitVec.getLsbD_xor, xor_comm4]
    congr 1
    cases b.getLsbD 31 <;> cases c.getLsbD 31 <;> simp
theorem ev_zero_right (n : Nat) : ∀ a : B32, ev n a 0#32 = 0#32 := by
  induction n with
  | zero => intro a; rfl
  | succ n ih => intro a; unfold ev; rw [show (0#32 <<< 1) = 0#32 from by decide, ih]; simp
theorem ev_st (n : Nat) : ∀ a b : B32, ev n (st a) b = st (ev n a b) := by
  induction n with
  | zero => intro a b; exact st_zero.symm
  | succ n ih =>
    intro a b
    unfold ev
    rw [ih, st_xor]
    congr 1
    cases b.getLsbD 31 <;> simp [st_zero]
theorem ev_xor_left (n : Nat) : ∀ a b c : B32, ev n (a ^^^ b) c = ev n a c ^^^ ev n b c := by
  induction n with
  | zero => intro a b c; simp [ev]
  | succ n ih =>
    intro a b c
    unfold ev
    rw [st_xor, ih, xor_comm4]
    congr 1
    cases c.getLsbD 31 <;> simp
theorem ev_zero_left (n : Nat) : ∀ b : B32, ev n 0#32 b = 0#32 := by
  induction n with
  | zero => intro b; rfl
  | succ n ih => intro b; unfold ev; rw [st_zero, ih]; simp
theorem mul_one (a : B32) : mul a one = a := by
  unfold mul
  show (if one.getLsbD 31 then a else 0#32) ^^^ ev 31 (st a) (one <<< 1) = a
  rw [show one.getLsbD 31 = true from by decide, show one <<< 1 = 0#32 from by decide, ev_zero_right]
  simp
/-- Every vector is its own product with the first power. -/
theorem basis : ∀ i : Nat, i < 32 → it (31 - i) one = BitVec.twoPow 32 i := by decide +kernel
/-- What holds of the powers of x, and of sums, holds of every vector. -/
theorem span (p : B32 → Prop) (h0 : p 0#32) (hx : ∀ a b, p a → p b → p (a ^^^ b)) (hb : ∀ i, p (it i one)) (a : B32) : p a := by
  have key : ∀ n, n ≤ 32 → ∀ a : B32, (∀ i, n ≤ i → a.getLsbD i = false) → p a := by
    intro n
    induction n with
    | zero =>
      intro _ a h
      have : a = 0#32 := BitVec.eq_of_getLsbD_eq (fun i _ => by rw [h i (Nat.zero_le _)]; simp)
      rw [this]; exact h0
    | succ n ih =>
      intro hn a h
      cases hc : a.getLsbD n with
      | false =>
        refine ih (by omega) a (fun i hi => ?_)
        by_cases e : i = n
        · rw [e]; exact hc
        · exact h i (by omega)
      | true =>
        have e : a = (a ^^^ BitVec.twoPow 32 n) ^^^ BitVec.twoPow 32 n := by rw [BitVec.xor_assoc, BitVec.xor_self, BitVec.xor_zero]
        rw [e]
        refine hx _ _ (ih (by omega) _ (fun i hi => ?_)) (by rw [← basis n (by omega)]; exact hb _)
        rw [BitVec.getLsbD_xor, BitVec.getLsbD_twoPow]
        by_cases e : i = n
        · subst e; rw [hc]; simp; omega
        · rw [h i (by omega)]; simp; omega
  exact key 32 (Nat.le_refl _) a (fun i hi => BitVec.getLsbD_of_ge _ _ hi)
theorem ev_it (n m : Nat) : ∀ a b : B32, ev n (it m a) b = it m (ev n a b) := by
  induction m with
  | zero => intro a b; rfl
  | succ m ih => intro a b; unfold it; rw [ih, ev_st]
theorem ones_basis : ∀ i : Nat, i < 32 → mul one (BitVec.twoPow 32 i) = BitVec.twoPow 32 i := by decide +kernel
theorem one_mul (b : B32) : mul one b = b := by
  have key : ∀ n, n ≤ 32 → ∀ a : B32, (∀ i, n ≤ i → a.getLsbD i = false) → mul one a = a := by
    intro n
    induction n with
    | zero =>
      intro _ a h
      have : a = 0#32 := BitVec.eq_of_getLsbD_eq (fun i _ => by rw [h i (Nat.zero_le _)]; simp)
      rw [this]; exact ev_zero_right _ _
    | succ n ih =>
      intro hn a h
      cases hc : a.getLsbD n with
      | false =>
        refine ih (by omega) a (fun i hi => ?_)
        by_cases e : i = n
        · rw [e]; exact hc
        · exact h i (by omega)
      | true =>
        have e : a = (a ^^^ BitVec.twoPow 32 n) ^^^ BitVec.twoPow 32 n := by rw [BitVec.xor_assoc, BitVec.xor_self, BitVec.xor_zero]
        have h1 : mul one (a ^^^ BitVec.twoPow 32 n) = a ^^^ BitVec.twoPow 32 n := by
          refine ih (by omega) _ (fun i hi => ?_)
          rw [BitVec.getLsbD_xor, BitVec.getLsbD_twoPow]
          by_cases e : i = n
          · subst e; rw [hc]; simp; omega
          · rw [h i (by omega)]; simp; omega
        have h2 : mul one ((a ^^^ BitVec.twoPow 32 n) ^^^ BitVec.twoPow 32 n) = (a ^^^ BitVec.twoPow 32 n) ^^^ BitVec.twoPow 32 n := by
          unfold mul; rw [ev_xor_right]
          have h3 := ones_basis n (by omega)
          unfold mul at h1 h3
          rw [h1, h3]
        rw [← e] at h2; exact h2
  exact key 32 (Nat.le_refl _) b (fun i hi => BitVec.getLsbD_of_ge _ _ hi)
theorem mul_st (a b : B32) : mul a (st b) = st (mul a b) := by
  refine span (fun a => mul a (st b) = st (mul a b)) ?_ ?_ ?_ a
  · unfold mul; rw [ev_zero_left, ev_zero_left]; exact st_zero.symm
  · intro a c ha hc
    unfold mul at *
    rw [ev_xor_left, ev_xor_left, st_xor, ha, hc]
  · intro i
    have h1 := one_mul (st b)
    have h2 := one_mul b
    unfold mul at *
    rw [ev_it, ev_it, h1, h2]
    exact it_comm i 1 b
/-- A product with the m-th power is m steps. -/
theorem mul_it (m : Nat) (a : B32) : mul a (it m one) = it m a := by
  induction m with
  | zero => exact mul_one a
  | succ m ih => rw [it_succ, it_succ, mul_st, ih]
theorem it_mul (j k : Nat) : mul (it j one) (it k one) = it (j + k) one := by rw [mul_it, it_add]
theorem odd_step (m n8 : Nat) (p q : B32) (hm : m % 2 = 1) (h : ∃ j k : Nat, p = it j one ∧ q = it k one ∧ j + k * m = n8) :
    ∃ j k : Nat, mul p q = it j one ∧ mul q q = it k one ∧ j + k * (m / 2) = n8 := by
  obtain ⟨j, k, rfl, rfl, e⟩ := h
  refine ⟨j + k, k + k, it_mul j k, it_mul k k, ?_⟩
  have e2 : m = 2 * (m / 2) + 1 := by omega
  rw [← e]
  conv => rhs; rw [e2]
  rw [Nat.mul_add, Nat.add_mul, Nat.mul_left_comm, Nat.mul_one, Nat.two_mul]
  omega
theorem even_step (m n8 : Nat) (p q : B32) (hm : ¬ m % 2 = 1) (h : ∃ j k : Nat, p = it j one ∧ q = it k one ∧ j + k * m = n8) :
    ∃ j k : Nat, p = it j one ∧ mul q q = it k one ∧ j + k * (m / 2) = n8 := by
  obtain ⟨j, k, rfl, rfl, e⟩ := h
  refine ⟨j, k + k, rfl, it_mul k k, ?_⟩
  have e2 : m = 2 * (m / 2) := by omega
  rw [← e]
  conv => rhs; rw [e2]
  rw [Nat.add_mul, Nat.mul_left_comm, Nat.two_mul]
theorem shift_start : it 8 one = 8388608#32 := by decide +kernel

/-! Four neighbouring bytes. -/
theorem byte_bit (x i : Nat) (hx : x < 256) (hi : 8 ≤ i) : (byte x).getLsbD i = false := by
  unfold byte
  rw [BitVec.getLsbD_ofNat]
  have : x.testBit i = false := Nat.testBit_lt_two_pow (Nat.lt_of_lt_of_le hx (by
    have : 2 ^ 8 ≤ 2 ^ i := Nat.pow_le_pow_right (by omega) hi
    simpa using this))
  rw [this]; simp
theorem byte_xor (x y : Nat) : byte (x ^^^ y) = byte x ^^^ byte y := by
  unfold byte; apply BitVec.eq_of_getLsbD_eq; intro i hi
  rw [BitVec.getLsbD_xor, BitVec.getLsbD_ofNat, BitVec.getLsbD_ofNat, BitVec.getLsbD_ofNat, Nat.testBit_xor]; simp [hi]
theorem byte_st (x k : Nat) (hk : k ≤ 16) (hx : x < 256) : it 8 (byte x <<< (k + 8)) = byte x <<< k := by
  rw [it_shr 8 _ (by intro i hi; rw [BitVec.getLsbD_shiftLeft]; simp; omega)]
  apply BitVec.eq_of_getLsbD_eq
  intro i hi
  rw [BitVec.getLsbD_ushiftRight, BitVec.getLsbD_shiftLeft, BitVec.getLsbD_shiftLeft]
  by_cases h : i < k
  · simp [h]; omega
  · rw [show 8 + i - (k + 8) = i - k by omega]
    by_cases h2 : 8 + i < 32
    · have h4 : k + 8 ≤ 8 + i := by omega
      simp [h, h2, hi, h4]
    · rw [byte_bit x (i - k) hx (by omega)]; simp
theorem eq_of_st (a b : B32) (h : it 8 a = it 8 b) : a = b := by
  have h1 : it 8 (a ^^^ b) = 0#32 := by rw [it_xor, h, BitVec.xor_self]
  have h2 := it_inj0 8 _ h1
  exact BitVec.xor_eq_zero_iff.1 h2
/-- Four bytes that leave the state as it would be without them are all 0. -/
theorem four (x0 x1 x2 x3 : Nat) (h0 : x0 < 256) (h1 : x1 < 256) (h2 : x2 < 256) (h3 : x3 < 256)
    (h : push (push (push (push 0#32 x0) x1) x2) x3 = 0#32) : x0 = 0 ∧ x1 = 0 ∧ x2 = 0 ∧ x3 = 0 := by
  have e3 := it_inj0 8 _ h
  have e3' : push (push (push 0#32 x0) x1) x2 = byte x3 := BitVec.xor_eq_zero_iff.1 e3
  have b3 : byte x3 = it 8 (byte x3 <<< (0 + 8)) := by rw [byte_st x3 0 (by omega) h3]; simp
  rw [b3] at e3'
  have e2 := eq_of_st _ _ e3'
  have e2' : push (push 0#32 x0) x1 = byte x2 ^^^ byte x3 <<< (0 + 8) := by
    have := congrArg (fun z => z ^^^ byte x2) e2
    simp only [BitVec.xor_assoc, BitVec.xor_self, BitVec.xor_zero] at this
    rw [this, BitVec.xor_comm]
  have b2 : byte x2 ^^^ byte x3 <<< (0 + 8) = it 8 (byte x2 <<< (0 + 8) ^^^ byte x3 <<< (0 + 8 + 8)) := by
    rw [it_xor, byte_st x2 0 (by omega) h2, byte_st x3 (0 + 8) (by omega) h3]; simp
  rw [b2] at e2'
  have e1 := eq_of_st _ _ e2'
  have e1' : push 0#32 x0 = byte x1 ^^^ (byte x2 <<< (0 + 8) ^^^ byte x3 <<< (0 + 8 + 8)) := by
    have := congrArg (fun z => z ^^^ byte x1) e1
    simp only [BitVec.xor_assoc, BitVec.xor_self, BitVec.xor_zero] at this
    rw [this, ← BitVec.xor_assoc, BitVec.xor_comm]
  have b1 : byte x1 ^^^ (byte x2 <<< (0 + 8) ^^^ byte x3 <<< (0 + 8 + 8)) = it 8 (byte x1 <<< (0 + 8) ^^^ (byte x2 <<< (0 + 8 + 8) ^^^ byte x3 <<< (0 + 8 + 8 + 8))) := by
    rw [it_xor, it_xor, byte_st x1 0 (by omega) h1, byte_st x2 (0 + 8) (by omega) h2, byte_st x3 (0 + 8 + 8) (by omega) h3]; simp
  rw [b1] at e1'
  have e0 := eq_of_st _ _ e1'
  rw [BitVec.zero_xor] at e0
  have bit : ∀ i, i < 32 → (byte x0).getLsbD i = (byte x1 <<< (0 + 8) ^^^ (byte x2 <<< (0 + 8 + 8) ^^^ byte x3 <<< (0 + 8 + 8 + 8))).getLsbD i := by intro i _; rw [e0]
  have lowb : ∀ x i, i < 8 → (byte x).getLsbD i = x.testBit i := by
    intro x i hi; unfold byte; rw [BitVec.getLsbD_ofNat]; simp; omega
  have zero_of : ∀ x, x < 256 → (∀ i, i < 8 → x.testBit i = false) → x = 0 := by
    intro x hx hb
    apply Nat.eq_of_testBit_eq
    intro i
    rw [Nat.zero_testBit]
    by_cases hi : i < 8
    · exact hb i hi
    · exact Nat.testBit_lt_two_pow (Nat.lt_of_lt_of_le hx (by
        have : 2 ^ 8 ≤ 2 ^ i := Nat.pow_le_pow_right (by omega) (by omega)
        simpa using this))
  refine ⟨zero_of x0 h0 (fun i hi => ?_), zero_of x1 h1 (fun i hi => ?_), zero_of x2 h2 (fun i hi => ?_), zero_of x3 h3 (fun i hi => ?_)⟩
  · have := bit i (by omega)
    rw [lowb x0 i hi] at this
    simp only [BitVec.getLsbD_xor, BitVec.getLsbD_shiftLeft] at this
    have g1 : i < 0 + 8 := by omega
    have g2 : i < 0 + 8 + 8 := by omega
    have g3 : i < 0 + 8 + 8 + 8 := by omega
    simp only [g1, g2, g3, decide_true, Bool.not_true, Bool.and_false, Bool.false_and, Bool.xor_false] at this
    exact this
  · have := bit (i + 8) (by omega)
    rw [byte_bit x0 _ h0 (by omega)] at this
    simp only [BitVec.getLsbD_xor, BitVec.getLsbD_shiftLeft] at this
    rw [show i + 8 - (0 + 8) = i by omega, lowb x1 i hi] at this
    have g1 : i + 8 < 16 := by omega
    have g2 : i + 8 < 24 := by omega
    have g3 : i + 8 < 32 := by omega
    simp [g1, g2, g3] at this
    exact this
  · have := bit (i + 16) (by omega)
    rw [byte_bit x0 _ h0 (by omega)] at this
    simp only [BitVec.getLsbD_xor, BitVec.getLsbD_shiftLeft] at this
    rw [byte_bit x1 (i + 16 - (0 + 8)) h1 (by omega), show i + 16 - (0 + 8 + 8) = i by omega, lowb x2 i hi] at this
    have g2 : i + 16 < 24 := by omega
    have g3 : i + 16 < 32 := by omega
    simp [g2, g3] at this
    exact this
  · have := bit (i + 24) (by omega)
    rw [byte_bit x0 _ h0 (by omega)] at this
    simp only [BitVec.getLsbD_xor, BitVec.getLsbD_shiftLeft] at this
    rw [byte_bit x1 (i + 24 - (0 + 8)) h1 (by omega), byte_bit x2 (i + 24 - (0 + 8 + 8)) h2 (by omega), show i + 24 - (0 + 8 + 8 + 8) = i by omega, lowb x3 i hi] at this
    have g3 : i + 24 < 32 := by omega
    simp [g3] at this
    exact this
/-- Bytes in a message change its end as the differences by themselves would. -/
theorem push_xor (c d : B32) (x y : Nat) : push (c ^^^ d) (x ^^^ y) = push c x ^^^ push d y := by
  unfold push
  rw [byte_xor, xor_comm4, it_xor]
theorem fold_inj (l : List Nat) (c d : B32) (h : fold c l = fold d l) : c = d := by
  have h1 := fold_lin l (c ^^^ d) d
  rw [BitVec.xor_assoc, BitVec.xor_self, BitVec.xor_zero, h] at h1
  have h2 : it (8 * l.length) (c ^^^ d) = 0#32 := by
    have := congrArg (fun z => z ^^^ fold d l) h1
    simp only [BitVec.xor_assoc, BitVec.xor_self, BitVec.xor_zero] at this
    exact this.symm
  exact BitVec.xor_eq_zero_iff.1 (it_inj0 _ _ h2)
/-- Two messages that part in four neighbouring bytes alone have different checksums. -/
theorem burst (c : B32) (p q : List Nat) (a0 a1 a2 a3 x0 x1 x2 x3 : Nat) (h0 : x0 < 256) (h1 : x1 < 256) (h2 : x2 < 256) (h3 : x3 < 256)
    (hne : ¬ (x0 = 0 ∧ x1 = 0 ∧ x2 = 0 ∧ x3 = 0)) :
    upd c (p ++ ([a0, a1, a2, a3] ++ q)) ≠ upd c (p ++ ([a0 ^^^ x0, a1 ^^^ x1, a2 ^^^ x2, a3 ^^^ x3] ++ q)) := by
  intro h
  unfold upd at h
  have h' := congrArg (fun z => ~~~ z) h
  simp only [BitVec.not_not, fold_append] at h'
  generalize fold (~~~ c) p = s at h'
  have e := fold_inj q _ _ h'
  simp only [fold_cons, fold_nil] at e
  have k : push (push (push (push s (a0 ^^^ x0)) (a1 ^^^ x1)) (a2 ^^^ x2)) (a3 ^^^ x3) = push (push (push (push s a0) a1) a2) a3 ^^^ push (push (push (push 0#32 x0) x1) x2) x3 := by
    rw [← push_xor, ← push_xor, ← push_xor, ← push_xor, BitVec.xor_zero]
  rw [k] at e
  refine hne (four x0 x1 x2 x3 h0 h1 h2 h3 ?_)
  have := congrArg (fun z => push (push (push (push s a0) a1) a2) a3 ^^^ z) e
  simp only [← BitVec.xor_assoc, BitVec.xor_self, BitVec.zero_xor] at this
  exact this.symm

/-! A message of which some neighbouring bytes are changed, one after the other. -/
def md (k : List Nat) (p : Nat) (xs : List Nat) : Nat → List Nat
  | 0 => k
  | j + 1 => (md k p xs j).set (p + j) ((md k p xs j).getD (p + j) 0 ^^^ xs.getD j 0)
theorem md_length (k : List Nat) (p : Nat) (xs : List Nat) (j : Nat) : (md k p xs j).length = k.length := by
  induction j with
  | zero => rfl
  | succ j ih => unfold md; rw [List.length_set, ih]
theorem md_lt (k : List Nat) (p : Nat) (xs : List Nat) (hk : ∀ x ∈ k, x < 256) (hx : ∀ j, xs.getD j 0 < 256) (j : Nat) : ∀ x ∈ md k p xs j, x < 256 := by
  induction j with
  | zero => exact hk
  | succ j ih =>
    intro x h
    unfold md at h
    rcases List.mem_or_eq_of_mem_set h with h | rfl
    · exact ih x h
    · refine Nat.xor_lt_two_pow (n := 8) ?_ (hx j)
      rw [List.getD_eq_getElem?_getD]
      cases hg : (md k p xs j)[p + j]? with
      | none => decide
      | some y => exact ih y (List.mem_of_getElem? hg)
theorem md_four (pre q : List Nat) (a0 a1 a2 a3 x0 x1 x2 x3 : Nat) :
    md (pre ++ ([a0, a1, a2, a3] ++ q)) pre.length [x0, x1, x2, x3] 4 = pre ++ ([a0 ^^^ x0, a1 ^^^ x1, a2 ^^^ x2, a3 ^^^ x3] ++ q) := by
  have g : ∀ (l : List Nat) (j : Nat), (pre ++ l).getD (pre.length + j) 0 = l.getD j 0 := by
    intro l j
    rw [List.getD_eq_getElem?_getD, List.getElem?_append_right (by omega), List.getD_eq_getElem?_getD, show pre.length + j - pre.length = j by omega]
  have s : ∀ (l : List Nat) (j v : Nat), (pre ++ l).set (pre.length + j) v = pre ++ l.set j v := by
    intro l j v
    rw [List.set_append_right _ _ (by omega), show pre.length + j - pre.length = j by omega]
  simp only [md, g, s, List.cons_append, List.nil_append]
  rfl
theorem split_four (k : List Nat) (p : Nat) (h : p + 4 ≤ k.length) : ∃ pre a0 a1 a2 a3 q, pre.length = p ∧ k = pre ++ ([a0, a1, a2, a3] ++ q) := by
  refine ⟨k.take p, ?_⟩
  have e := (List.take_append_drop p k).symm
  have hl : (k.take p).length = p := by rw [List.length_take]; omega
  have hd : (k.drop p).length = k.length - p := List.length_drop ..
  match hm : k.drop p, hd with
  | a0 :: a1 :: a2 :: a3 :: q, _ => exact ⟨a0, a1, a2, a3, q, hl, by rw [hm] at e; exact e⟩
  | [], hd => simp at hd; omega
  | [_], hd => simp at hd; omega
  | [_, _], hd => simp at hd; omega
  | [_, _, _], hd => simp at hd; omega
/-- A message and its copy with four neighbouring bytes changed: different checksums. -/
theorem burst_md (c : B32) (k : List Nat) (p x0 x1 x2 x3 : Nat) (h : p + 4 ≤ k.length) (h0 : x0 < 256) (h1 : x1 < 256) (h2 : x2 < 256) (h3 : x3 < 256)
    (hne : ¬ (x0 = 0 ∧ x1 = 0 ∧ x2 = 0 ∧ x3 = 0)) : upd c k ≠ upd c (md k p [x0, x1, x2, x3] 4) := by
  obtain ⟨pre, a0, a1, a2, a3, q, rfl, rfl⟩ := split_four k p h
  rw [md_four]
  exact burst c pre q a0 a1 a2 a3 x0 x1 x2 x3 h0 h1 h2 h3 hne
end Go.Proofs.Ytcdomlgnfbdeoaa.Crc
end
section
namespace Go.Proofs.Ytcdomlgnfbdeoaa.Crc
open Go

/-- A vector as a number. Not to be opened by a walk. -/
def U (c : B32) : Nat := c.toNat
theorem U_lt (c : B32) : U c < 4294967296 := c.isLt
theorem of_range {x : Int} (h : 0 ≤ x ∧ x < 4294967296) : ∃ c : B32, x = (U c : Int) := ⟨BitVec.ofNat 32 x.toNat, by unfold U; rw [BitVec.toNat_ofNat, Nat.mod_eq_of_lt (by omega)]; omega⟩
theorem U_inj (a b : B32) (h : U a = U b) : a = b := BitVec.eq_of_toNat_eq h
theorem not_u32 (c : B32) : bits .xor .u32 IntKind.u32.max (U c : Int) = (U (~~~ c) : Int) := by
  have h : IntKind.u32.max = ((4294967295 : Nat) : Int) := by decide
  rw [h, u32_xor_nat 4294967295 (U c) (by decide) (U_lt c)]
  have h2 : (4294967295 : Nat) = (BitVec.allOnes 32).toNat := by decide
  unfold U
  rw [h2, ← BitVec.toNat_xor, BitVec.xor_comm, BitVec.xor_allOnes]
theorem xor_u32 (a b : B32) : bits .xor .u32 (U a : Int) (U b : Int) = (U (a ^^^ b) : Int) := by
  rw [u32_xor_nat _ _ (U_lt a) (U_lt b)]
  unfold U
  rw [BitVec.toNat_xor]
theorem byte_U (x : Nat) (hx : x < 256) : U (byte x) = x := by
  unfold byte U; rw [BitVec.toNat_ofNat]; exact Nat.mod_eq_of_lt (by omega)
theorem xor_byte (a : B32) (x : Nat) (hx : x < 256) : bits .xor .u32 (U a : Int) (x : Int) = (U (a ^^^ byte x) : Int) := by
  rw [← xor_u32, byte_U x hx]
theorem and_u32 (a : B32) (k : Nat) (hk : k < 4294967296) : bits .and .u32 (U a : Int) (k : Int) = (U (a &&& BitVec.ofNat 32 k) : Int) := by
  rw [u32_and_nat _ _ (U_lt a) hk]
  unfold U
  rw [BitVec.toNat_and, BitVec.toNat_ofNat, Nat.mod_eq_of_lt (by omega)]
theorem shr_u32 (a : B32) (k : Nat) : (U a : Int) / ((2 ^ k : Nat) : Int) = (U (a >>> k) : Int) := by
  unfold U
  rw [BitVec.toNat_ushiftRight, Nat.shiftRight_eq_div_pow]; rfl
/-- Four steps of the program's table. -/
theorem nib (d : B32) : bits .xor .u32 ((U d : Int) / 16) (((words.getD (U (d &&& 15#32)) 0 : Nat)) : Int) = (U (it 4 d) : Int) := by
  have h := shr_u32 d 4
  have e : words.getD (U (d &&& 15#32)) 0 = U (tab (U (d &&& 15#32))) := (tab_words _ (low_lt d)).symm
  rw [e, show (16 : Int) = ((2 ^ 4 : Nat) : Int) from rfl, h, xor_u32]
  have := it4 d
  unfold U at *
  rw [← this]
theorem low (d : B32) : bits .and .u32 (U d : Int) 15 = (U (d &&& 15#32) : Int) := and_u32 d 15 (by decide)
theorem low_U (d : B32) : U (d &&& 15#32) < 16 := low_lt d
/-- One round by the table, step by step: for a walk, every intermediate number under a name of its own. -/
theorem nib_names (d : B32) (w : World) (ht : ∀ k, k < 16 → w.cell? ⟨0, k, none⟩ = some (.int .u32 ((words.getD k 0 : Nat) : Int))) :
    ∃ (j t : Nat), j < 16 ∧ bits .and .u32 (U d : Int) 15 = (j : Int) ∧ w.cell? ⟨0, j, none⟩ = some (.int .u32 (t : Int)) ∧ bits .xor .u32 ((U d : Int) / 16) (t : Int) = (U (it 4 d) : Int) :=
  ⟨U (d &&& 15#32), words.getD (U (d &&& 15#32)) 0, low_U d, low d, ht _ (low_U d), nib d⟩
theorem ref_bit (k : Nat) (f : B32) (x : Nat) (hx : x < 256) :
    (bits .and .u32 (bits .xor .u32 (U (rs k f x) : Int) ((x : Int) / 2 ^ k % 4294967296)) 1 == 1) = (it k (f ^^^ byte x)).getLsbD 0 := by
  have h1 : ((x : Int) / 2 ^ k % 4294967296) = ((x / 2 ^ k : Nat) : Int) := by
    have e : ((x : Int) / 2 ^ k) = ((x / 2 ^ k : Nat) : Int) := by rw [Int.natCast_ediv, Int.natCast_pow]; rfl
    have hl : x / 2 ^ k < 256 := Nat.lt_of_le_of_lt (Nat.div_le_self _ _) hx
    rw [e]
    generalize x / 2 ^ k = y at hl
    omega
  rw [h1, xor_byte _ _ (Nat.lt_of_le_of_lt (Nat.div_le_self _ _) hx), rs_bit]
  generalize it k (f ^^^ byte x) = v
  have h2 := and_u32 v 1 (by decide)
  rw [show ((1 : Nat) : Int) = 1 from rfl] at h2
  rw [h2]
  have h3 : U (v &&& BitVec.ofNat 32 1) = v.toNat % 2 := by
    unfold U; rw [BitVec.toNat_and]; exact Nat.and_two_pow_sub_one_eq_mod v.toNat 1
  rw [h3, BitVec.getLsbD, Nat.testBit_zero]
  by_cases h : v.toNat % 2 = 1
  · rw [h]; rfl
  · have h0 : v.toNat % 2 = 0 := by omega
    rw [h0]; rfl
theorem half (s : B32) : (U s : Int) / (2 : Int) = (U (s >>> 1) : Int) := shr_u32 s 1
theorem ref_yes (k : Nat) (f : B32) (x : Nat) (hx : x < 256) (h : (it k (f ^^^ byte x)).getLsbD 0 = true) :
    bits .xor .u32 ((U (rs k f x) : Int) / 2) 2197175160 = (U (rs (k + 1) f x) : Int) := by
  rw [half, rs_next k f x hx, h, if_pos rfl, ← xor_u32]
  rfl
theorem ref_no (k : Nat) (f : B32) (x : Nat) (hx : x < 256) (h : (it k (f ^^^ byte x)).getLsbD 0 = false) :
    (U (rs k f x) : Int) / 2 = (U (rs (k + 1) f x) : Int) := by
  rw [half, rs_next k f x hx, h, if_neg (by decide), BitVec.xor_zero]
theorem test_one (c : B32) : (bits .and .u32 (U c : Int) 1 == 1) = c.getLsbD 0 := by
  have h2 := and_u32 c 1 (by decide)
  rw [show ((1 : Nat) : Int) = 1 from rfl] at h2
  rw [h2]
  have h3 : U (c &&& BitVec.ofNat 32 1) = c.toNat % 2 := by
    unfold U; rw [BitVec.toNat_and]; exact Nat.and_two_pow_sub_one_eq_mod c.toNat 1
  rw [h3, BitVec.getLsbD, Nat.testBit_zero]
  by_cases h : c.toNat % 2 = 1
  · rw [h]; rfl
  · have h0 : c.toNat % 2 = 0 := by omega
    rw [h0]; rfl
theorem st_yes (c : B32) (h : c.getLsbD 0 = true) : bits .xor .u32 ((U c : Int) / 2) 2197175160 = (U (st c) : Int) := by
  unfold st
  rw [half, h, if_pos rfl, ← xor_u32]; rfl
theorem st_no (c : B32) (h : c.getLsbD 0 = false) : (U c : Int) / 2 = (U (st c) : Int) := by
  unfold st
  rw [half, h, if_neg (by decide), BitVec.xor_zero]
theorem zero_iff (b : B32) : ((U b : Int) != 0) = (b != 0#32) := by
  by_cases h : b = 0#32
  · subst h; rfl
  · have h1 : U b ≠ 0 := fun e => h (U_inj _ _ e)
    have h2 : (b != 0#32) = true := by simpa using h
    rw [h2]; simp; exact h1
theorem top_bit (b : B32) : (bits .and .u32 (U b : Int) 2147483648 != 0) = b.getLsbD 31 := by
  have h2 := and_u32 b 2147483648 (by decide)
  rw [show ((2147483648 : Nat) : Int) = 2147483648 from rfl] at h2
  rw [h2, zero_iff]
  cases hb : b.getLsbD 31 with
  | true =>
    have : b &&& BitVec.ofNat 32 2147483648 ≠ 0#32 := fun e => by
      have := congrArg (fun z : B32 => z.getLsbD 31) e
      simp only [BitVec.getLsbD_and, hb] at this
      exact absurd this (by decide)
    simpa using this
  | false =>
    have : b &&& BitVec.ofNat 32 2147483648 = 0#32 := by
      apply BitVec.eq_of_getLsbD_eq
      intro i hi
      rw [BitVec.getLsbD_and, show BitVec.ofNat 32 2147483648 = BitVec.twoPow 32 31 from by decide, BitVec.getLsbD_twoPow]
      by_cases e : 31 = i
      · subst e; rw [hb]; simp
      · simp [e]
    rw [this]; rfl
theorem shl_one (b : B32) : (U b : Int) * (2 : Int) % (4294967296 : Int) = (U (b <<< 1) : Int) := by
  unfold U
  rw [BitVec.toNat_shiftLeft, Nat.shiftLeft_eq]
  omega
theorem odd_i64 (m : Nat) (h : m < 9223372036854775808) : bits .and .i64 (m : Int) 1 = ((m % 2 : Nat) : Int) := by
  have h1 : (BitVec.ofInt 64 1).toNat = 1 := by decide
  have h2 : (BitVec.ofInt 64 (m : Int)).toNat = m := by
    rw [BitVec.ofInt_natCast, BitVec.toNat_ofNat]; exact Nat.mod_eq_of_lt (by omega)
  have h3 : m &&& 1 = m % 2 := Nat.and_two_pow_sub_one_eq_mod m 1
  show IntKind.i64.wrap ((BitVec.ofInt 64 (m : Int) &&& BitVec.ofInt 64 1).toNat : Int) = _
  rw [BitVec.toNat_and, h1, h2, h3, IntKind.wrap_i64]
  omega
theorem odd_test (m : Nat) (h : m < 9223372036854775808) : (bits .and .i64 (m : Int) 1 == 1) = decide (m % 2 = 1) := by
  rw [odd_i64 m h]
  by_cases h1 : m % 2 = 1
  · rw [h1]; rfl
  · have h0 : m % 2 = 0 := by omega
    rw [h0]; rfl
end Go.Proofs.Ytcdomlgnfbdeoaa.Crc
end
section
namespace Go.Proofs.Ytcdomlgnfbdeoaa
open Go.RowKit
/-- The program's table lies in the first block. -/
def TabW (w : World) : Prop := ∀ k, k < 16 → w.cell? ⟨0, k, none⟩ = some (.int .u32 ((Crc.words.getD k 0 : Nat) : Int))
/-! The products. -/
end Go.Proofs.Ytcdomlgnfbdeoaa
end
section
namespace Go.Proofs.Ytcdomlgnfbdeoaa
open Go.RowKit

theorem TabW.below {B : Nat} {w w' : World} (h : TabW w) (hb : Below B w w') (hB : 0 < B) : TabW w' := fun k hk => (hb.cell (p := ⟨0, k, none⟩) hB).trans (h k hk)
/-- What the statements read of a slice: its first k bytes. -/
theorem cut300 {A : Option Addr} {n B : Nat} {l : List Nat} {w : World} (hl : l.length = n) (hb : Bs w B A l) (k : Nat) :
    ∃ (m : Nat) (l' : List Nat), ((n ≤ k ∧ m = n) ∨ (k < n ∧ m = k)) ∧ Hid (l'.length = m) ∧ Hid (Bs w B A l') ∧ m ≤ k := by
  by_cases h : n ≤ k
  · exact ⟨n, l, .inl ⟨h, rfl⟩, hl, hb, h⟩
  · exact ⟨k, l.take k, .inr ⟨by omega, rfl⟩, by show (l.take k).length = k; rw [List.length_take]; omega, hb.take k, Nat.le_refl _⟩

def nine : List Nat := [49, 50, 51, 52, 53, 54, 55, 56, 57]
theorem tab_alloc {w : World} (h : TabW w) (hz : 0 < w.heap.size) (o : Obj) : TabW (w.alloc o) := h.below ((Below.refl w.heap.size w).alloc (Nat.le_refl _) o) hz
theorem bs_nine (w : World) : Bs (w.alloc (.cells #[.int .u8 49, .int .u8 50, .int .u8 51, .int .u8 52, .int .u8 53, .int .u8 54, .int .u8 55, .int .u8 56, .int .u8 57] 5 (9, 10))) (w.heap.size + 1) (some ⟨w.heap.size, 0, none⟩) nine := by
  intro k hk
  refine ⟨?_, _, rfl, Nat.lt_succ_self _, ?_⟩
  · have : ∀ k, k < 9 → nine.getD k 0 < 256 := by decide
    exact this k hk
  · have hk9 : k < 9 := hk
    have e : (Addr.mk w.heap.size 0 none).add k = ⟨w.heap.size, k, none⟩ := by
      unfold Addr.add
      by_cases h0 : k = 0
      · subst h0; rfl
      · simp [h0]
    rw [e, cell_of_row _ _ _ _ _ _ (heap_alloc_new w _)]
    obtain rfl | rfl | rfl | rfl | rfl | rfl | rfl | rfl | rfl : k = 0 ∨ k = 1 ∨ k = 2 ∨ k = 3 ∨ k = 4 ∨ k = 5 ∨ k = 6 ∨ k = 7 ∨ k = 8 := by omega
    all_goals rfl
theorem TabW.drewN {w : World} (h : TabW w) (n : Nat) : TabW (w.drewN n) := h
theorem Bs.drewN {w : World} {B : Nat} {A : Option Addr} {l : List Nat} (h : Bs w B A l) (n : Nat) : Bs (w.drewN n) B A l := h
theorem below_drewN (w : World) (n : Nat) : Below w.heap.size w (w.drewN n) := ⟨rfl, rfl, rfl, Nat.le_refl _, fun _ _ => rfl⟩
theorem info_byte : (Try.prog.info? 5).map (fun i => (i.zero, i.size, i.bytes)) = some (some (.int .u8 0), 1, 1) := by kernel_rfl

end Go.Proofs.Ytcdomlgnfbdeoaa
end
section
namespace Go.Proofs.Ytcdomlgnfbdeoaa.Wire

/-- The lowest k bytes of n, the most significant one first. -/
def be : Nat → Nat → List Nat
  | 0, _ => []
  | k + 1, n => (n / 256 ^ k % 256) :: be k n
theorem be_length (k n : Nat) : (be k n).length = k := by
  induction k with
  | zero => rfl
  | succ k ih => simp [be, ih]
theorem be_succ (k n : Nat) : be (k + 1) n = (n / 256 ^ k % 256) :: be k n := rfl
theorem be_lt (k n : Nat) : ∀ x ∈ be k n, x < 256 := by
  induction k with
  | zero => intro x hx; cases hx
  | succ k ih =>
    intro x hx
    rw [be_succ] at hx
    rcases List.mem_cons.1 hx with rfl | h
    · exact Nat.mod_lt _ (by decide)
    · exact ih x h
/-- The number that bytes make up. -/
def num (l : List Nat) : Nat := l.foldl (fun a x => a * 256 + x) 0
theorem num_nil : num [] = 0 := rfl
theorem num_snoc (l : List Nat) (x : Nat) : num (l ++ [x]) = num l * 256 + x := by
  unfold num; rw [List.foldl_append]; rfl
theorem num_from (l : List Nat) (a : Nat) : l.foldl (fun a x => a * 256 + x) a = a * 256 ^ l.length + num l := by
  induction l generalizing a with
  | nil => simp [num]
  | cons x l ih =>
    unfold num
    rw [List.foldl_cons, List.foldl_cons, ih, ih (0 * 256 + x), List.length_cons, Nat.pow_succ, Nat.zero_mul, Nat.zero_add, Nat.add_mul, Nat.mul_assoc, Nat.mul_comm 256, Nat.add_assoc]
theorem num_cons (x : Nat) (l : List Nat) : num (x :: l) = x * 256 ^ l.length + num l := by
  show List.foldl _ 0 (x :: l) = _
  rw [List.foldl_cons, num_from]; simp
theorem num_lt (l : List Nat) (h : ∀ x ∈ l, x < 256) : num l < 256 ^ l.length := by
  induction l with
  | nil => decide
  | cons x l ih =>
    rw [num_cons, List.length_cons, Nat.pow_succ]
    have h1 := ih fun y hy => h y (List.mem_cons_of_mem _ hy)
    have h2 := h x (List.mem_cons_self ..)
    have h3 : (x + 1) * 256 ^ l.length ≤ 256 * 256 ^ l.length := Nat.mul_le_mul_right _ h2
    rw [Nat.add_mul, Nat.one_mul] at h3
    rw [Nat.mul_comm (256 ^ l.length)]
    omega
theorem num_be (k n : Nat) : num (be k n) = n % 256 ^ k := by
  induction k with
  | zero => simp [be, num, Nat.mod_one]
  | succ k ih =>
    rw [be_succ, num_cons, ih, be_length, Nat.pow_succ, Nat.mod_mul, Nat.add_comm, Nat.mul_comm]
theorem pow_le (k : Nat) (h : k ≤ 8) : 256 ^ k ≤ 18446744073709551616 := by
  have : (256 : Nat) ^ k ≤ 256 ^ 8 := Nat.pow_le_pow_right (by decide) h
  exact this
theorem pow_le7 (k : Nat) (h : k ≤ 7) : 256 ^ k ≤ 72057594037927936 := by
  have : (256 : Nat) ^ k ≤ 256 ^ 7 := Nat.pow_le_pow_right (by decide) h
  exact this
/-- 'n<<8 | uint64(x)': one byte more. -/
theorem or_byte (p x : Nat) (hp : p < 72057594037927936) (hx : x < 256) : bits .or .u64 ((p : Int) * 256) (x : Int) = ((p * 256 + x : Nat) : Int) := by
  have e : (p : Int) * 256 = ((p * 256 : Nat) : Int) := by omega
  rw [e, u64_or_nat _ _ (by omega) (by omega)]
  have h := Nat.two_pow_add_eq_or_of_lt (i := 8) (b := x) (by omega) p
  have e2 : (2 : Nat) ^ 8 * p = p * 256 := by omega
  rw [e2] at h
  rw [h]
/-- 'byte(n >> (8*i))' as the walk writes it. -/
theorem byte_of (N k : Nat) : ∃ x : Nat, (N : Int) / 2 ^ (8 * k) % 256 = (x : Int) ∧ x < 256 ∧ x = N / 256 ^ k % 256 := by
  refine ⟨N / 256 ^ k % 256, ?_, Nat.mod_lt _ (by decide), rfl⟩
  have e : (2 : Nat) ^ (8 * k) = 256 ^ k := by rw [Nat.pow_mul]
  have h : ((2 : Int) ^ (8 * k)) = (((256 : Nat) ^ k : Nat) : Int) := by rw [← e]; simp
  rw [h]; omega
/-- 'n & (1<<uint(8*m) - 1)' as the walk writes it. -/
theorem and_low (N m : Nat) (hN : N < 18446744073709551616) (hm : m ≤ 7) : bits .and .u64 (N : Int) (IntKind.u64.wrap (IntKind.u64.wrap (2 ^ (8 * m)) - 1)) = ((N % 256 ^ m : Nat) : Int) := by
  have e : (2 : Nat) ^ (8 * m) = 256 ^ m := by rw [Nat.pow_mul]
  have h : ((2 : Int) ^ (8 * m)) = ((2 ^ (8 * m) : Nat) : Int) := by simp
  have hp := pow_le7 m hm
  have h1 : 0 < 256 ^ m := Nat.pow_pos (by decide)
  rw [h, IntKind.wrap_u64, IntKind.wrap_u64]
  have e2 : ((((2 ^ (8 * m) : Nat) : Int) % 18446744073709551616 - 1) % 18446744073709551616) = ((2 ^ (8 * m) - 1 : Nat) : Int) := by rw [e]; omega
  rw [e2, u64_and_nat _ _ hN (by rw [e]; omega), Nat.and_two_pow_sub_one_eq_mod, e]
theorem mod_all (N : Nat) (hN : N < 18446744073709551616) : N % 256 ^ 8 = N := Nat.mod_eq_of_lt hN
end Go.Proofs.Ytcdomlgnfbdeoaa.Wire
end
section
namespace Go.Proofs.Ytcdomlgnfbdeoaa
open Go.RowKit

theorem add_add (a : Addr) (i j : Nat) : (a.add i).add j = a.add (i + j) := by
  unfold Addr.add
  by_cases hi : i = 0 <;> by_cases hj : j = 0 <;> simp [hi, hj, Nat.add_assoc]
/-- Bytes read in blocks from lo on, below hi. -/
def BsIn (w : World) (lo hi : Nat) (A : Option Addr) (l : List Nat) : Prop := ∀ k, k < l.length → l.getD k 0 < 256 ∧ ∃ ad, A = some ad ∧ lo ≤ ad.block ∧ ad.block < hi ∧ w.cell? (ad.add k) = some (.int .u8 ((l.getD k 0 : Nat) : Int))
section
variable {w w' : World} {lo hi : Nat} {A : Option Addr} {l : List Nat}
theorem BsIn.bs (h : BsIn w lo hi A l) : Bs w hi A l := fun k hk => by
  obtain ⟨h1, ad, h2, _, h3, h4⟩ := h k hk
  exact ⟨h1, ad, h2, h3, h4⟩
theorem Bs.bsIn (h : Bs w hi A l) : BsIn w 0 hi A l := fun k hk => by
  obtain ⟨h1, ad, h2, h3, h4⟩ := h k hk
  exact ⟨h1, ad, h2, Nat.zero_le _, h3, h4⟩
theorem BsIn.nil : BsIn w lo hi A [] := fun k hk => absurd hk (by simp)
theorem BsIn.keep (h : BsIn w lo hi A l) (hb : ∀ b, lo ≤ b → b < hi → w'.heap[b]? = w.heap[b]?) : BsIn w' lo hi A l := fun k hk => by
  obtain ⟨h1, ad, h2, h3, h5, h4⟩ := h k hk
  exact ⟨h1, ad, h2, h3, h5, (World.cell?_of_block (hb _ (by rw [add_block]; exact h3) (by rw [add_block]; exact h5))).trans h4⟩
theorem BsIn.wider {lo' hi' : Nat} (h : BsIn w lo hi A l) (h1 : lo' ≤ lo) (h2 : hi ≤ hi') : BsIn w lo' hi' A l := fun k hk => by
  obtain ⟨a, ad, b, c, d, e⟩ := h k hk
  exact ⟨a, ad, b, by omega, by omega, e⟩
theorem getD_take (l : List Nat) (n k : Nat) (hk : k < n) : (l.take n).getD k 0 = l.getD k 0 := by
  rw [List.getD_eq_getElem?_getD, List.getD_eq_getElem?_getD, List.getElem?_take_of_lt hk]
theorem getD_drop (l : List Nat) (n k : Nat) : (l.drop n).getD k 0 = l.getD (n + k) 0 := by
  rw [List.getD_eq_getElem?_getD, List.getD_eq_getElem?_getD, List.getElem?_drop]
theorem BsIn.take (h : BsIn w lo hi A l) (n : Nat) : BsIn w lo hi A (l.take n) := fun k hk => by
  rw [List.length_take] at hk
  rw [getD_take l n k (by omega)]
  exact h k (by omega)
theorem BsIn.drop (h : BsIn w lo hi A l) (n : Nat) : BsIn w lo hi (A.map (·.add n)) (l.drop n) := fun k hk => by
  rw [List.length_drop] at hk
  obtain ⟨h1, ad, rfl, h3, h5, h4⟩ := h (n + k) (by omega)
  rw [getD_drop]
  exact ⟨h1, ad.add n, rfl, by rw [add_block]; exact h3, by rw [add_block]; exact h5, by rw [add_add]; exact h4⟩
theorem BsIn.drop' (h : BsIn w lo hi A l) (n c : Nat) (hc : l.length ≤ c) : BsIn w lo hi (if c = n then A else A.map (·.add n)) (l.drop n) := by
  by_cases e : c = n
  · rw [List.drop_eq_nil_of_le (by omega)]; exact BsIn.nil
  · rw [if_neg e]; exact h.drop n
end

section
variable {w w' : World} {lo g : Nat} {bad : Bool} {l : List Nat}
end
theorem rd_cells {w : World} {g : Nat} {x y : Value} {t : TypeId} (h : w.heap[g]? = some (.cells #[x, y] t (0, 0))) :
    (w.cell? ⟨g, 0, none⟩ = some x ∧ w.cell? ⟨g, 1, none⟩ = some y) ∧ w.frozen? ⟨g, 0, none⟩ = false ∧ w.frozen? ⟨g, 1, none⟩ = false := by
  refine ⟨⟨?_, ?_⟩, ?_, ?_⟩
  · rw [cell_of_row w g 0 _ t (0, 0) h]; rfl
  · rw [cell_of_row w g 1 _ t (0, 0) h]; rfl
  · exact frozen_of_row w g 0 _ t h
  · exact frozen_of_row w g 1 _ t h
theorem set_two {w : World} {g : Nat} {x y u v : Value} {t : TypeId} (h : w.heap[g]? = some (.cells #[x, y] t (0, 0))) :
    ((w.setCell ⟨g, 0, none⟩ u).setCell ⟨g, 1, none⟩ v).heap[g]? = some (.cells #[u, v] t (0, 0)) := by
  simp [World.setCell, Array.getElem?_modify, h]
theorem set_one {w : World} {g : Nat} {x y u : Value} {t : TypeId} (h : w.heap[g]? = some (.cells #[x, y] t (0, 0))) :
    (w.setCell ⟨g, 0, none⟩ u).heap[g]? = some (.cells #[u, y] t (0, 0)) := by
  simp [World.setCell, Array.getElem?_modify, h]
theorem grown_set (w : World) (g o : Nat) (u : Value) : w.grownBy (w.setCell ⟨g, o, none⟩ u) (some g) :=
  ⟨rfl, rfl, rfl, by simp [World.setCell], fun k _ hne => Below.heap_setCell w ⟨g, o, none⟩ u k (fun e => hne (by rw [e]))⟩
theorem grown_trans' {a b c : World} {row : Option Nat} (h : a.grownBy b row) (k : b.grownBy c row) : a.grownBy c row :=
  ⟨k.os.trans h.os, k.tape.trans h.tape, k.output.trans h.output, Nat.le_trans h.size k.size, fun i hi hne => (k.block i (Nat.lt_of_lt_of_le hi h.size) hne).trans (h.block i hi hne)⟩
theorem grown_refl (w : World) (row : Option Nat) : w.grownBy w row := ⟨rfl, rfl, rfl, Nat.le_refl _, fun _ _ _ => rfl⟩
theorem grown_of_below {a w : World} (h : Below a.heap.size a w) (row : Option Nat) : a.grownBy w row := ⟨h.os, h.tape, h.output, h.size, fun i hi _ => h.block i hi⟩
theorem below_of_grown {a w : World} {B g : Nat} (h : a.grownBy w (some g)) (hB : B ≤ g) (hs : B ≤ a.heap.size) : Below B a w :=
  ⟨h.os, h.tape, h.output, h.size, fun i hi => h.block i (by omega) (fun e => by injection e with e; omega)⟩
end Go.Proofs.Ytcdomlgnfbdeoaa
end
section
namespace Go.Proofs.Ytcdomlgnfbdeoaa
open Go.RowKit

theorem info_u8 : (Try.prog.info? 5).map (fun i => (i.zero, i.size, i.bytes)) = some (some (.int .u8 0), 1, 1) := by kernel_rfl
/-- What 'bytes.Clone' leaves: a row of its own with the same bytes, or nil where nil came in. -/
def Cloned (w : World) (n : Nat) (l : List Nat) (e : Ending) (w' : World) : Prop :=
  ∃ v, e = .returned v ∧ w'.ownsRow w.heap.size 5 1 v n (vals l) ∧ Below w.heap.size w w'
theorem ownsRow_mono {w : World} {b b' : Nat} {e : TypeId} {size : Nat} {v : Value} {n : Nat} {xs : List Value} (h : w.ownsRow b e size v n xs) (hb : b' ≤ b) : w.ownsRow b' e size v n xs := by
  refine ⟨h.1, ?_⟩
  rcases h.2 with h | ⟨g, cap, cur, h1, h2, h3⟩
  · exact .inl h
  · exact .inr ⟨g, cap, cur, h1, by omega, h3⟩
theorem grown_then {a b c : World} {row : Option Nat} (h : a.grownBy b row) (k : Below b.heap.size b c) : a.grownBy c row := grown_trans' h (grown_of_below k row)
end Go.Proofs.Ytcdomlgnfbdeoaa
end
section
namespace Go.Proofs.Ytcdomlgnfbdeoaa
open Go.RowKit

theorem made_row (w : World) (n : Nat) : (w.alloc (.cells (madeCells #[.int .u8 0] n) 5)).heap[w.heap.size]? = some (.cells (List.replicate n (Value.int .u8 0)).toArray 5 (0, 0)) := by
  have h := heap_alloc_new w (.cells (madeCells #[.int .u8 0] n) 5)
  have e := toList_madeCells_one (.int .u8 0) n
  rw [h, ← e, Array.toArray_toList]
theorem own_spliced {w : World} {base g n m : Nat} {l : List Nat} (hb : base ≤ g) (hl : l.length = n) (hm : n + m ≤ maxLen)
    (h : w.heap[g]? = some (.cells (splice (List.replicate (n + m) (Value.int .u8 0)) 0 (vals l)).toArray 5 (0, 0))) :
    w.ownsRow base 5 1 (.slice (some ⟨g, 0, none⟩) n (n + m)) n (vals l) := by
  have hv : (vals l).length = n := by rw [vals_length, hl]
  refine ⟨by rw [hv]; omega, .inr ⟨g, n + m, _, rfl, hb, h, by omega, hm, ?_, ?_⟩⟩
  · rw [List.size_toArray, length_splice _ _ _ (by rw [hv, List.length_replicate]; omega), List.length_replicate]; omega
  · unfold splice
    rw [List.take_zero, List.nil_append, Nat.mul_one, List.take_left' hv]
/-- What 'Put' leaves. -/
def DidPut (w : World) (l : List Nat) (e : Ending) (w' : World) : Prop :=
  ∃ v, e = .returned v ∧ w'.ownsRow w.heap.size 5 1 v l.length (vals l) ∧ Below w.heap.size w w'
end Go.Proofs.Ytcdomlgnfbdeoaa
end
section
namespace Go.Proofs.Ytcdomlgnfbdeoaa
open Go.RowKit
/-- What a comparison leaves: nothing but draws. -/
def SaysQuiet (b : Bool) (w : World) (e : Ending) (w' : World) : Prop := e = .returned (.bool b) ∧ ∃ k, w' = w.drewN k
theorem getD_ext {a b : List Nat} (hl : a.length = b.length) (h : ∀ j, j < a.length → a.getD j 0 = b.getD j 0) : a = b := by
  apply List.ext_getElem hl
  intro j h1 h2
  have e := h j h1
  rw [List.getD_eq_getElem?_getD, List.getD_eq_getElem?_getD, List.getElem?_eq_getElem h1, List.getElem?_eq_getElem h2] at e
  exact e
end Go.Proofs.Ytcdomlgnfbdeoaa
end
section
namespace Go.Proofs.Ytcdomlgnfbdeoaa.Rc
open Wire

structure Rec where
  kind : Int
  key : List Nat
  val : List Nat
  exp : Int
def none : Rec := ⟨0, [], [], 0⟩
def most (v : Int) : Int := if v = 1 then 4294967295 else 1099511627775
/-- Does the kind exist, and allow what is there? -/
def well (kd : Int) (n m : Nat) (x : Int) : Prop := kd = 1 ∨ (kd = 2 ∧ m = 0 ∧ x = 0) ∨ (kd = 3 ∧ m = 0 ∧ x = 0 ∧ n = 0)
instance (kd : Int) (n m : Nat) (x : Int) : Decidable (well kd n m x) := by unfold well; infer_instance
/-- The first error of a record with a key of n bytes and a value of m. -/
def chk (v kd : Int) (n m : Nat) (x : Int) : Int :=
  if v ≠ 1 ∧ v ≠ 2 then 2 else if ¬ well kd n m x then 4 else if kd ≠ 3 ∧ (n = 0 ∨ 255 < n) then 5 else if 65536 < m then 6 else if x < 0 ∨ most v < x then 7 else 0
def check (v : Int) (r : Rec) : Int := chk v r.kind r.key.length r.val.length r.exp
def len (r : Rec) : Nat := 16 + r.key.length + r.val.length
/-- Is the place one? -/
def place (seq off : Int) : Prop := 0 ≤ seq ∧ 0 ≤ off ∧ off ≤ 2147483647
instance (seq off : Int) : Decidable (place seq off) := by unfold place; infer_instance
/-- What Encode says. -/
def err (v seq off : Int) (r : Rec) : Int := if check v r ≠ 0 then check v r else if place seq off then 0 else 2
theorem chk_ok {v kd : Int} {n m : Nat} {x : Int} (h : chk v kd n m x = 0) : (v = 1 ∨ v = 2) ∧ well kd n m x ∧ n ≤ 255 ∧ m ≤ 65536 ∧ 0 ≤ x ∧ x ≤ most v ∧ 1 ≤ kd ∧ kd ≤ 3 := by
  unfold chk at h
  split at h
  · omega
  split at h
  · omega
  split at h
  · omega
  split at h
  · omega
  split at h
  · omega
  rename_i h1 h2 h3 h4 h5
  have hw : well kd n m x := Decidable.not_not.1 h2
  have hw2 := hw
  unfold well at hw2
  refine ⟨by omega, hw, by omega, by omega, by omega, by omega, by omega, by omega⟩
theorem most_le (v : Int) : most v ≤ 1099511627775 := by unfold most; split <;> omega

/-- Fields: a number and its width each. -/
def flat (fs : List (Nat × Nat)) : List Nat := fs.flatMap fun f => be f.2 f.1
theorem flat_nil : flat [] = [] := rfl
theorem flat_cons (f : Nat × Nat) (fs : List (Nat × Nat)) : flat (f :: fs) = be f.2 f.1 ++ flat fs := by unfold flat; rw [List.flatMap_cons]
theorem flat_append (a b : List (Nat × Nat)) : flat (a ++ b) = flat a ++ flat b := by unfold flat; rw [List.flatMap_append]
theorem flat_lt (fs : List (Nat × Nat)) : ∀ x ∈ flat fs, x < 256 := by
  intro x hx
  unfold flat at hx
  obtain ⟨f, _, h⟩ := List.mem_flatMap.1 hx
  exact be_lt _ _ x h
def fields (v : Int) (r : Rec) : List (Nat × Nat) :=
  if v = 1 then [(161, 1), (r.kind.toNat, 1), (r.key.length, 1), (0, 1), (r.val.length, 4), (r.exp.toNat, 4)]
  else [(162, 1), (r.key.length, 1), (16 * r.kind.toNat, 1), (r.val.length, 3), (0, 1), (r.exp.toNat, 5)]
def head (v : Int) (r : Rec) : List Nat := flat (fields v r)
def spot (seq off : Int) : List Nat := flat [(seq.toNat, 8), (off.toNat, 4)]
theorem head_length (v : Int) (r : Rec) : (head v r).length = 12 := by
  unfold head fields
  split <;> simp [flat, be_length]
theorem spot_length (seq off : Int) : (spot seq off).length = 12 := by simp [spot, flat, be_length]
def sum (v seq off : Int) (r : Rec) : Nat := Crc.U (Crc.upd 0#32 (spot seq off ++ (head v r ++ (r.key ++ r.val))))
def enc (v seq off : Int) (r : Rec) : List Nat := head v r ++ (be 4 (sum v seq off r) ++ (r.key ++ r.val))
theorem enc_length (v seq off : Int) (r : Rec) : (enc v seq off r).length = len r := by
  unfold enc len
  rw [List.length_append, List.length_append, List.length_append, head_length, be_length]; omega
theorem enc_lt (v seq off : Int) (r : Rec) (hk : ∀ x ∈ r.key, x < 256) (hv : ∀ x ∈ r.val, x < 256) : ∀ x ∈ enc v seq off r, x < 256 := by
  intro x hx
  unfold enc head at hx
  rcases List.mem_append.1 hx with h | h
  · exact flat_lt _ x h
  rcases List.mem_append.1 h with h | h
  · exact be_lt _ _ x h
  rcases List.mem_append.1 h with h | h
  · exact hk x h
  · exact hv x h

/-! What is read back. -/
def sub (b : List Nat) (i n : Nat) : List Nat := (b.drop i).take n
def kl (v : Int) (b : List Nat) : Nat := if v = 1 then b.getD 2 0 else b.getD 1 0
def vl (v : Int) (b : List Nat) : Nat := if v = 1 then num (sub b 4 4) else num (sub b 3 3)
def kd (v : Int) (b : List Nat) : Nat := if v = 1 then b.getD 1 0 else b.getD 2 0 / 16
def xp (v : Int) (b : List Nat) : Nat := if v = 1 then num (sub b 8 4) else num (sub b 7 5)
def rec (v : Int) (b : List Nat) : Rec := ⟨(kd v b : Int), sub b 16 (kl v b), sub b (16 + kl v b) (vl v b), (xp v b : Int)⟩
/-- Does b begin with a record? -/
def good (v seq off : Int) (b : List Nat) : Prop := 16 ≤ b.length ∧ 16 + kl v b + vl v b ≤ b.length ∧ check v (rec v b) = 0 ∧ place seq off ∧ enc v seq off (rec v b) = b.take (16 + kl v b + vl v b)
def dec (v seq off : Int) (b : List Nat) [Decidable (good v seq off b)] : Rec := if good v seq off b then rec v b else none
theorem sub_length (b : List Nat) (i n : Nat) (h : i + n ≤ b.length) : (sub b i n).length = n := by
  unfold sub; rw [List.length_take, List.length_drop]; omega
theorem be_one (n : Nat) : be 1 n = [n % 256] := by simp [be]
theorem shape1 (r : Rec) (seq off : Int) (more : List Nat) : enc 1 seq off r ++ more = 161 :: (r.kind.toNat % 256) :: (r.key.length % 256) :: 0 :: (be 4 r.val.length ++ (be 4 r.exp.toNat ++ (be 4 (sum 1 seq off r) ++ (r.key ++ (r.val ++ more))))) := by
  unfold enc head fields
  rw [if_pos rfl]
  simp [flat, be_one]
theorem shape2 (r : Rec) (seq off : Int) (more : List Nat) : enc 2 seq off r ++ more = 162 :: (r.key.length % 256) :: (16 * r.kind.toNat % 256) :: (be 3 r.val.length ++ (0 :: (be 5 r.exp.toNat ++ (be 4 (sum 2 seq off r) ++ (r.key ++ (r.val ++ more)))))) := by
  unfold enc head fields
  rw [if_neg (by decide)]
  simp [flat, be_one]
theorem be4 (n : Nat) : be 4 n = [n / 256 ^ 3 % 256, n / 256 ^ 2 % 256, n / 256 ^ 1 % 256, n / 256 ^ 0 % 256] := rfl
theorem be3 (n : Nat) : be 3 n = [n / 256 ^ 2 % 256, n / 256 ^ 1 % 256, n / 256 ^ 0 % 256] := rfl
theorem be5 (n : Nat) : be 5 n = [n / 256 ^ 4 % 256, n / 256 ^ 3 % 256, n / 256 ^ 2 % 256, n / 256 ^ 1 % 256, n / 256 ^ 0 % 256] := rfl
theorem sub_more (a b c : List Nat) (i n : Nat) (hi : i = a.length) (hn : n = b.length) : sub (a ++ (b ++ c)) i n = b := by
  subst hi hn
  unfold sub
  rw [List.drop_left, List.take_left]
theorem back (v seq off : Int) (r : Rec) (more : List Nat) (h : check v r = 0) : kl v (enc v seq off r ++ more) = r.key.length ∧ vl v (enc v seq off r ++ more) = r.val.length ∧ rec v (enc v seq off r ++ more) = r := by
  obtain ⟨hv, _, hn, hm, hx, hxm, hk1, hk3⟩ := chk_ok h
  have hkt : (r.kind.toNat : Int) = r.kind := by omega
  have hxt : (r.exp.toNat : Int) = r.exp := by omega
  rcases hv with rfl | rfl
  · have hxm' : r.exp ≤ 4294967295 := by have e : most 1 = 4294967295 := rfl; omega
    have a1 : kl 1 (enc 1 seq off r ++ more) = r.key.length := by
      rw [shape1]; show r.key.length % 256 = _; omega
    have a2 : vl 1 (enc 1 seq off r ++ more) = r.val.length := by
      rw [shape1]
      have e : vl 1 (161 :: (r.kind.toNat % 256) :: (r.key.length % 256) :: 0 :: (be 4 r.val.length ++ (be 4 r.exp.toNat ++ (be 4 (sum 1 seq off r) ++ (r.key ++ (r.val ++ more)))))) = num (be 4 r.val.length) := rfl
      rw [e, num_be, show (256 : Nat) ^ 4 = 4294967296 from rfl]; omega
    have a3 : kd 1 (enc 1 seq off r ++ more) = r.kind.toNat := by
      rw [shape1]; show r.kind.toNat % 256 = _; omega
    have a4 : xp 1 (enc 1 seq off r ++ more) = r.exp.toNat := by
      rw [shape1]
      have e : xp 1 (161 :: (r.kind.toNat % 256) :: (r.key.length % 256) :: 0 :: (be 4 r.val.length ++ (be 4 r.exp.toNat ++ (be 4 (sum 1 seq off r) ++ (r.key ++ (r.val ++ more)))))) = num (be 4 r.exp.toNat) := rfl
      rw [e, num_be, show (256 : Nat) ^ 4 = 4294967296 from rfl]; omega
    refine ⟨a1, a2, ?_⟩
    unfold rec
    rw [a1, a2, a3, a4, hkt, hxt]
    have e : enc 1 seq off r ++ more = (head 1 r ++ be 4 (sum 1 seq off r)) ++ (r.key ++ (r.val ++ more)) := by unfold enc; simp
    have e2 : enc 1 seq off r ++ more = (head 1 r ++ (be 4 (sum 1 seq off r) ++ r.key)) ++ (r.val ++ more) := by unfold enc; simp
    have b1 : sub (enc 1 seq off r ++ more) 16 r.key.length = r.key := by
      rw [e]; exact sub_more _ _ _ _ _ (by rw [List.length_append, head_length, be_length]) rfl
    have b2 : sub (enc 1 seq off r ++ more) (16 + r.key.length) r.val.length = r.val := by
      rw [e2]; exact sub_more _ _ _ _ _ (by rw [List.length_append, List.length_append, head_length, be_length]; omega) rfl
    rw [b1, b2]
  · have hxm' : r.exp ≤ 1099511627775 := by have e : most 2 = 1099511627775 := rfl; omega
    have a1 : kl 2 (enc 2 seq off r ++ more) = r.key.length := by
      rw [shape2]; show r.key.length % 256 = _; omega
    have a2 : vl 2 (enc 2 seq off r ++ more) = r.val.length := by
      rw [shape2]
      have e : vl 2 (162 :: (r.key.length % 256) :: (16 * r.kind.toNat % 256) :: (be 3 r.val.length ++ (0 :: (be 5 r.exp.toNat ++ (be 4 (sum 2 seq off r) ++ (r.key ++ (r.val ++ more))))))) = num (be 3 r.val.length) := rfl
      rw [e, num_be, show (256 : Nat) ^ 3 = 16777216 from rfl]; omega
    have a3 : kd 2 (enc 2 seq off r ++ more) = r.kind.toNat := by
      rw [shape2]; show 16 * r.kind.toNat % 256 / 16 = _; omega
    have a4 : xp 2 (enc 2 seq off r ++ more) = r.exp.toNat := by
      rw [shape2]
      have e : xp 2 (162 :: (r.key.length % 256) :: (16 * r.kind.toNat % 256) :: (be 3 r.val.length ++ (0 :: (be 5 r.exp.toNat ++ (be 4 (sum 2 seq off r) ++ (r.key ++ (r.val ++ more))))))) = num (be 5 r.exp.toNat) := rfl
      rw [e, num_be, show (256 : Nat) ^ 5 = 1099511627776 from rfl]; omega
    refine ⟨a1, a2, ?_⟩
    unfold rec
    rw [a1, a2, a3, a4, hkt, hxt]
    have e : enc 2 seq off r ++ more = (head 2 r ++ be 4 (sum 2 seq off r)) ++ (r.key ++ (r.val ++ more)) := by unfold enc; simp
    have e2 : enc 2 seq off r ++ more = (head 2 r ++ (be 4 (sum 2 seq off r) ++ r.key)) ++ (r.val ++ more) := by unfold enc; simp
    have b1 : sub (enc 2 seq off r ++ more) 16 r.key.length = r.key := by
      rw [e]; exact sub_more _ _ _ _ _ (by rw [List.length_append, head_length, be_length]) rfl
    have b2 : sub (enc 2 seq off r ++ more) (16 + r.key.length) r.val.length = r.val := by
      rw [e2]; exact sub_more _ _ _ _ _ (by rw [List.length_append, List.length_append, head_length, be_length]; omega) rfl
    rw [b1, b2]
/-- What was encoded is decoded, whatever follows it. -/
theorem round (v seq off : Int) (r : Rec) (more : List Nat) (h : check v r = 0) (hp : place seq off) : good v seq off (enc v seq off r ++ more) ∧ rec v (enc v seq off r ++ more) = r := by
  obtain ⟨h1, h2, h3⟩ := back v seq off r more h
  refine ⟨?_, h3⟩
  unfold good
  rw [h1, h2, h3]
  have hl := enc_length v seq off r
  unfold len at hl
  refine ⟨by rw [List.length_append]; omega, by rw [List.length_append]; omega, h, hp, ?_⟩
  rw [List.take_left' hl]
theorem inj (v seq off : Int) (a b : Rec) (ha : check v a = 0) (hb : check v b = 0) (h : enc v seq off a = enc v seq off b) : a = b := by
  have h1 := (back v seq off a [] ha).2.2
  have h2 := (back v seq off b [] hb).2.2
  rw [← h1, ← h2, h]
theorem getD_take' (l : List Nat) (n k : Nat) (hk : k < n) : (l.take n).getD k 0 = l.getD k 0 := by
  rw [List.getD_eq_getElem?_getD, List.getD_eq_getElem?_getD, List.getElem?_take_of_lt hk]
theorem sub_take (l : List Nat) (n i m : Nat) (h : i + m ≤ n) : sub (l.take n) i m = sub l i m := by
  unfold sub
  rw [List.drop_take, List.take_take, Nat.min_eq_left (by omega)]
/-- The head tells the lengths, also where the end is missing. -/
theorem lengths_take (v : Int) (b : List Nat) (n : Nat) (hn : 16 ≤ n) : kl v (b.take n) = kl v b ∧ vl v (b.take n) = vl v b := by
  unfold kl vl
  rw [getD_take' _ _ _ (by omega), getD_take' _ _ _ (by omega), sub_take _ _ _ _ (by omega), sub_take _ _ _ _ (by omega)]
  exact ⟨rfl, rfl⟩
theorem cut (v seq off : Int) (r : Rec) (n : Nat) (h : check v r = 0) (hn : n < len r) (s o : Int) : ¬ good v s o ((enc v seq off r).take n) := by
  intro hg
  obtain ⟨h1, h2, _⟩ := hg
  have hl : ((enc v seq off r).take n).length = n := by rw [List.length_take, enc_length]; omega
  rw [hl] at h1 h2
  obtain ⟨e1, e2⟩ := lengths_take v (enc v seq off r) n h1
  rw [e1, e2] at h2
  obtain ⟨f1, f2, _⟩ := back v seq off r [] h
  rw [List.append_nil] at f1 f2
  rw [f1, f2] at h2
  unfold len at hn
  omega
/-- Two records compared field by field. -/
def same (a b : Rec) : Bool := decide (a.kind = b.kind) && (decide (a.exp = b.exp) && (decide (a.key = b.key) && decide (a.val = b.val)))
theorem same_iff (a b : Rec) : same a b = true ↔ a = b := by
  obtain ⟨a1, a2, a3, a4⟩ := a
  obtain ⟨b1, b2, b3, b4⟩ := b
  simp only [same, Bool.and_eq_true, decide_eq_true_eq, Rec.mk.injEq]
  constructor
  · rintro ⟨h1, h2, h3, h4⟩; exact ⟨h1, h3, h4, h2⟩
  · rintro ⟨h1, h2, h3, h4⟩; exact ⟨h1, h4, h2, h3⟩
theorem same_self (a : Rec) : same a a = true := (same_iff a a).2 rfl
theorem apart (v seq off : Int) (a b : Rec) (ha : check v a = 0) (hb : check v b = 0) : decide (enc v seq off a = enc v seq off b) = same a b := by
  by_cases h : a = b
  · subst h
    rw [same_self, decide_eq_true rfl]
  · have h1 : same a b = false := by
      cases hs : same a b with
      | false => rfl
      | true => exact absurd ((same_iff a b).1 hs) h
    rw [h1]
    exact decide_eq_false fun e => h (inj v seq off a b ha hb e)
end Go.Proofs.Ytcdomlgnfbdeoaa.Rc
end
section
namespace Go.Proofs.Ytcdomlgnfbdeoaa
open Go.RowKit
/-- A slice value: nil, or with bounds. -/
def SlIs (A : Option Addr) (n cap : Nat) : Prop := (A = none → cap = 0 ∧ n = 0) ∧ n ≤ cap ∧ cap ≤ 9223372036854775807
theorem ret_bool {a b : Bool} (h : a = b) : Ending.returned (.bool a) = .returned (.bool b) := by rw [h]
theorem four_cells {w : World} {g : Nat} {a b c d : Value} {t : TypeId} (h : w.heap[g]? = some (.cells #[a, b, c, d] t (0, 0))) :
    w.cell? ⟨g, 0, none⟩ = some a ∧ w.cell? ⟨g, 1, none⟩ = some b ∧ w.cell? ⟨g, 2, none⟩ = some c ∧ w.cell? ⟨g, 3, none⟩ = some d := by
  refine ⟨?_, ?_, ?_, ?_⟩
  · rw [cell_of_row w g 0 _ t (0, 0) h]; rfl
  · rw [cell_of_row w g 1 _ t (0, 0) h]; rfl
  · rw [cell_of_row w g 2 _ t (0, 0) h]; rfl
  · rw [cell_of_row w g 3 _ t (0, 0) h]; rfl
/-- The new block of a record, behind a call that keeps what there was. -/
theorem boxed {w w1 : World} {a b c d : Value} {t : TypeId} (hb : Below (w.alloc (.cells #[a, b, c, d] t)).heap.size (w.alloc (.cells #[a, b, c, d] t)) w1) :
    w1.heap[w.heap.size]? = some (.cells #[a, b, c, d] t (0, 0)) := (hb.block _ (by simp)).trans (heap_alloc_new w _)
theorem below_drawn {B : Nat} {a b : World} (h : Below B a b) (k : Nat) : Below B a (b.drewN k) := ⟨h.os, h.tape, h.output, h.size, h.block⟩
theorem alloc_at {w : World} {o : Obj} {g : Nat} (h : g = w.heap.size) : (w.alloc o).heap[g]? = some o := by subst h; exact heap_alloc_new w o
theorem add_zero_block (g i : Nat) : (Addr.mk g 0 none).add i = ⟨g, i, none⟩ := by
  unfold Addr.add
  by_cases h : i = 0
  · subst h; rfl
  · simp [h]
theorem sl_own {A : Option Addr} {n c : Nat} {g0 s : Nat} (h1 : n ≤ c) (h2 : c ≤ maxLen) (h3 : (A = none ∧ n = 0 ∧ c = 0) ∨ ∃ g, A = some ⟨g, 0, none⟩ ∧ g0 ≤ g ∧ g < s) : SlIs A n c := by
  refine ⟨fun e => ?_, h1, h2⟩
  rcases h3 with ⟨_, h, h'⟩ | ⟨g, h, _⟩
  · exact ⟨h', h⟩
  · rw [h] at e; cases e
theorem Bs.heap {w w' : World} {B : Nat} {A : Option Addr} {l : List Nat} (h : Bs w B A l) (e : w'.heap = w.heap) : Bs w' B A l := fun k hk => by
  obtain ⟨h1, ad, h2, h3, h4⟩ := h k hk
  exact ⟨h1, ad, h2, h3, (World.cell?_of_block (by rw [e])).trans h4⟩
theorem TabW.heap {w w' : World} (h : TabW w) (e : w'.heap = w.heap) : TabW w' := fun k hk => (World.cell?_of_block (by rw [e])).trans (h k hk)
theorem cells_12 {w : World} {g : Nat} {a b c d : Value} {t : TypeId} (h : w.heap[g]? = some (.cells #[a, b, c, d] t (0, 0))) : w.cell? ⟨g, 1, none⟩ = some b ∧ w.cell? ⟨g, 2, none⟩ = some c := by
  obtain ⟨_, h1, h2, _⟩ := four_cells h
  exact ⟨h1, h2⟩
/-- Bytes as a string. -/
def strOf (l : List Nat) : ByteArray := strOfNums (l.map Int.ofNat)
theorem conv_bytes (A : Option Addr) (B n c : Nat) (l : List Nat) (w : World) (hA : A = none → n = 0) (hl : l.length = n) (hb : Bs w B A l) :
    (convert 40 9 (.slice A n c)).run Try.prog w = .ok (.string (strOf l)) w := by
  rw [run_convert_bytes_string w 40 9 5 A n c Try.underlying40 Try.underlying5 Try.underlying9]
  cases A with
  | none =>
    obtain rfl := hA rfl
    obtain rfl := List.eq_nil_of_length_eq_zero hl
    simp [Conv.bytesToString]
    rfl
  | some ad =>
    have h := run_loadCells_list (P := Try.prog) (w := w) ad (vals l) hb.cells
    rw [vals_length, hl] at h
    have e : vals l = (l.map Int.ofNat).map (Value.int .u8) := by unfold vals; rw [List.map_map]; rfl
    rw [e] at h
    rw [run_bytesToString w ad n c (l.map Int.ofNat) h, foldl_push_bytes]
    simp [strOf, strOfNums, ByteArray.empty, ByteArray.emptyWithCapacity]
    rfl
theorem strOf_eq {a b : List Nat} (ha : ∀ x ∈ a, x < 256) (hb : ∀ x ∈ b, x < 256) : strOf a = strOf b ↔ a = b := by
  constructor
  · intro h
    have h2 : (strOf a).data.toList = (strOf b).data.toList := by rw [h]
    unfold strOf at h2
    rw [strOfNums_data, strOfNums_data, List.map_map, List.map_map] at h2
    have key : ∀ l : List Nat, (∀ x ∈ l, x < 256) → (l.map ((fun n : Int => UInt8.ofNat n.toNat) ∘ Int.ofNat)).map UInt8.toNat = l := by
      intro l hl
      rw [List.map_map]
      conv => rhs; rw [← List.map_id l]
      apply List.map_congr_left
      intro x hx
      have := hl x hx
      simp [Function.comp]
      omega
    rw [← key a ha, ← key b hb, h2]
  · rintro rfl; rfl
theorem strOf_beq {a b : List Nat} (ha : ∀ x ∈ a, x < 256) (hb : ∀ x ∈ b, x < 256) : ((strOf a).toList == (strOf b).toList) = decide (a = b) := by
  have e : ∀ l, (strOf l).toList = (strOf l).data.toList := fun l => by
    unfold strOf
    rw [Lib.strOfNums_toList, strOfNums_data]; rfl
  by_cases h : a = b
  · subst h
    rw [decide_eq_true rfl]; exact beq_self_eq_true _
  · rw [decide_eq_false h, beq_eq_false_iff_ne]
    intro h2
    rw [e, e] at h2
    exact h ((strOf_eq ha hb).1 (ByteArray.ext (Array.ext' h2)))
theorem results_row3 {P : Program} {fn : Func} {p u v : Tmp} {ty : TypeId} (h : fn.results = #[.cell p ty, .tmp u, .tmp v]) (tmps : Array Value) (w : World) (g : Nat) (t : TypeId) (cs : Array Value) (fr : Nat × Nat) (d : TypeDesc)
    (hp : tmps.getD p undef = .pointer (some ⟨g, 0, none⟩)) (hg : w.heap[g]? = some (.cells cs t fr))
    (hu : P.underlying ty = some d) (hd : (match d with | .struct _ | .array _ _ => true | _ => false) = true) (hi : (P.info? ty).map (·.size) = some cs.size) :
    (results fn tmps).run P w = .ok (.tuple #[.agg cs, tmps.getD u undef, tmps.getD v undef]) w := by
  have hp' : tmps[p]?.getD undef = .pointer (some ⟨g, 0, none⟩) := by simpa using hp
  simp [results, h, hp', asAddr, run_loadVar_row w g t ty cs fr d hg hu hd hi, Result.andThen]
theorem results_row2 {P : Program} {fn : Func} {p u : Tmp} {ty : TypeId} (h : fn.results = #[.cell p ty, .tmp u]) (tmps : Array Value) (w : World) (g : Nat) (t : TypeId) (cs : Array Value) (fr : Nat × Nat) (d : TypeDesc)
    (hp : tmps.getD p undef = .pointer (some ⟨g, 0, none⟩)) (hg : w.heap[g]? = some (.cells cs t fr))
    (hu : P.underlying ty = some d) (hd : (match d with | .struct _ | .array _ _ => true | _ => false) = true) (hi : (P.info? ty).map (·.size) = some cs.size) :
    (results fn tmps).run P w = .ok (.tuple #[.agg cs, tmps.getD u undef]) w := by
  have hp' : tmps[p]?.getD undef = .pointer (some ⟨g, 0, none⟩) := by simpa using hp
  simp [results, h, hp', asAddr, run_loadVar_row w g t ty cs fr d hg hu hd hi, Result.andThen]
theorem four_frozen {w : World} {g : Nat} {a b c d : Value} {t : TypeId} (h : w.heap[g]? = some (.cells #[a, b, c, d] t (0, 0))) :
    w.frozen? ⟨g, 0, none⟩ = false ∧ w.frozen? ⟨g, 1, none⟩ = false ∧ w.frozen? ⟨g, 2, none⟩ = false ∧ w.frozen? ⟨g, 3, none⟩ = false :=
  ⟨frozen_of_row w g 0 _ t h, frozen_of_row w g 1 _ t h, frozen_of_row w g 2 _ t h, frozen_of_row w g 3 _ t h⟩
theorem sub_lt {l : List Nat} (h : ∀ x ∈ l, x < 256) (i n : Nat) : ∀ x ∈ Rc.sub l i n, x < 256 := fun x hx => h x (List.mem_of_mem_drop (List.mem_of_mem_take hx))
theorem stored {w : World} {r : Nat} {a b c d a' b' c' d' : Value} {t : TypeId} (h : w.heap[r]? = some (.cells #[a, b, c, d] t (0, 0))) :
    ((((w.setCell ⟨r, 0, none⟩ a').setCell ⟨r, 1, none⟩ b').setCell ⟨r, 2, none⟩ c').setCell ⟨r, 3, none⟩ d').heap[r]? = some (.cells #[a', b', c', d'] t (0, 0)) := by
  simp [World.setCell, Array.getElem?_modify, h]
theorem stored_grown (w : World) (r : Nat) (a' b' c' d' : Value) : w.grownBy ((((w.setCell ⟨r, 0, none⟩ a').setCell ⟨r, 1, none⟩ b').setCell ⟨r, 2, none⟩ c').setCell ⟨r, 3, none⟩ d') (some r) :=
  grown_trans' (grown_trans' (grown_trans' (grown_set _ _ _ _) (grown_set _ _ _ _)) (grown_set _ _ _ _)) (grown_set _ _ _ _)
/-- The result's block behind parseHead and one more block. -/
theorem after_head {w w1 : World} {a b c d : Value} {t : TypeId} (hb : Below (w.alloc (.cells #[a, b, c, d] t)).heap.size (w.alloc (.cells #[a, b, c, d] t)) w1) (o : Obj) :
    (w1.alloc o).heap[w.heap.size]? = some (.cells #[a, b, c, d] t (0, 0)) ∧ Below w.heap.size w (w1.alloc o) ∧ w.heap.size < w1.heap.size := by
  have hB : Below w1.heap.size w1 (w1.alloc o) := (Below.refl _ _).alloc (Nat.le_refl _) _
  have hw1 : Below w.heap.size w w1 := ((Below.refl _ w).alloc (Nat.le_refl _) _).trans (hb.mono (by simp))
  have hlt := (Array.getElem?_eq_some_iff.1 (boxed hb)).1
  exact ⟨(hB.block _ hlt).trans (boxed hb), hw1.trans (hB.mono hw1.size), hlt⟩
theorem bs_own {w : World} {B : Nat} {A : Option Addr} {l : List Nat} (h : Bs w B A l) : Bs w w.heap.size A l := fun k hk => by
  obtain ⟨a1, ad', e, _, h⟩ := h k hk
  refine ⟨a1, ad', e, ?_, h⟩
  have := World.block_lt_of_cell? w _ h
  rwa [add_block] at this
theorem own_bsin {w : World} {base : Nat} {A : Option Addr} {l : List Nat} (h : Bs w w.heap.size A l) (ho : A = none ∨ ∃ g, A = some ⟨g, 0, none⟩ ∧ base ≤ g ∧ g < w.heap.size) : BsIn w base w.heap.size A l := fun k hk => by
  obtain ⟨a1, ad, rfl, a3, a4⟩ := h k hk
  refine ⟨a1, ad, rfl, ?_, a3, a4⟩
  rcases ho with e | ⟨g, e, h2, _⟩
  · cases e
  · injection e with e; subst e; exact h2
/-- What min(n, k) is. -/
def MinIs (n k m : Nat) : Prop := (n ≤ k ∧ m = n) ∨ (k < n ∧ m = k)
theorem min_is (n k : Nat) : ∃ m, MinIs n k m := by
  by_cases h : n ≤ k
  · exact ⟨n, .inl ⟨h, rfl⟩⟩
  · exact ⟨k, .inr ⟨by omega, rfl⟩⟩
theorem bs_one (w : World) (x : Nat) (hx : x < 256) (fz : Nat × Nat) : Bs (w.alloc (.cells #[.int .u8 (x : Int)] 5 fz)) (w.heap.size + 1) (some ⟨w.heap.size, 0, none⟩) [x] := by
  intro k hk
  obtain rfl : k = 0 := by simp at hk; exact hk
  refine ⟨hx, _, rfl, Nat.lt_succ_self _, ?_⟩
  rw [show (Addr.mk w.heap.size 0 none).add 0 = ⟨w.heap.size, 0, none⟩ from rfl, cell_of_row _ _ _ _ _ _ (heap_alloc_new w _)]
  rfl
/-- 'append(b, xs...)', b the call's own: what b held stays. -/
theorem append_keep {P : Program} {w : World} {ops : Array Oper} {rest : List Oper} {o : Oper} {a : Act} {Q : Exit → Act → World → Prop} (hgd : o.guard = none) (s x : Operand) (t : TypeId)
    (ho : o.op = .call { callee := .builtin .append, args := #[s, x], argTypes := #[t, t] })
    (base : Nat) (e : TypeId) (i : TypeInfo) (z : Value) (size bytes : Nat) (ht : P.underlying t = some (.slice e)) (hi : P.info? e = some i) (hz : i.zero = some z)
    (hsize : i.size = size) (hby : i.bytes = bytes) (hzs : z.cells.size = size) (hsz : 0 < size)
    (g n cap : Nat) (xs : List Value) (hs : a.eval s = .slice (some ⟨g, 0, none⟩) n cap) (hown : w.ownsRow base e size (.slice (some ⟨g, 0, none⟩) n cap) n xs)
    (ad : Addr) (m c : Nat) (news : List Value) (hx : a.eval x = .slice (some ad) m c) (hl : news.length = m * size) (hnews : ∀ j u, news[j]? = some u → w.cell? (ad.add j) = some u) (h1 : ∀ u ∈ news, u.oneCell' = true)
    (h63 : n + m ≤ maxLen) (hbytes : (n + m) * bytes ≤ 140737488355328) (hbase : base ≤ w.heap.size)
    (h : ∀ v' w', w'.ownsRow base e size v' (n + m) (xs ++ news) → Below base w w' → (∀ j, j < n * size → w'.cell? ⟨g, j, none⟩ = xs[j]?) → wpList P ops Q rest (a.put o.dst v') w') : wpList P ops Q (o :: rest) a w := by
  refine wpList_plain hgd fun K hK => ?_
  have hgb := hown.lt g rfl
  by_cases hr : n + m ≤ cap
  · obtain ⟨w', hrun, r1, r2⟩ := run_append_fits (P := P) w base t o.type e i size ht hi hsize g n cap xs hown ad m c news hl hnews h1 hr
    unfold Oper.wp
    simp [execOp, ho, resolve, invoke, builtin, hs, hx, hrun, Result.andThen]
    refine hK _ _ (h _ _ r1 (below_of_grown r2 hgb.1 hbase) fun j hj => ?_)
    rw [World.ownsRow.cellAt r1 j (by have := Nat.mul_le_mul_right size (Nat.le_add_right n m); omega), List.getElem?_append_left (by rw [hown.1]; exact hj)]
  · obtain ⟨v', w', hrun, r1, r2⟩ := run_append_arg_grows (P := P) w t o.type e i z size bytes ht hi hz hsize hby hzs hsz ⟨g, 0, none⟩ n cap xs hown.1 (fun j u hj => by
      have hj2 : j < xs.length := by
        rcases Nat.lt_or_ge j xs.length with h | h
        · exact h
        · rw [List.getElem?_eq_none h] at hj; cases hj
      rw [add_zero_block, World.ownsRow.cellAt hown j (by rw [← hown.1]; exact hj2)]; exact hj) ad m c news hl hnews (by omega) h63 hbytes
    unfold Oper.wp
    simp [execOp, ho, resolve, invoke, builtin, hs, hx, hrun, Result.andThen]
    refine hK _ _ (h _ _ (ownsRow_mono r1 hbase) ⟨r2.os, r2.tape, r2.output, r2.size, fun k hk => r2.block k (by omega) (by simp)⟩ fun j hj => ?_)
    rw [← World.ownsRow.cellAt hown j hj]
    exact World.cell?_of_block (r2.block g hgb.2 (by simp))
/-- A block stays as it is, and so does all that was there at first. -/
def Sd (w : World) (r : Nat) (o : Obj) (W : World) : Prop := W.heap[r]? = some o ∧ Below w.heap.size w W
theorem Sd.next {w W W' W'' : World} {r : Nat} {o : Obj} (h : Sd w r o W) (k : Below W'.heap.size W' W'') (e1 : W'.heap = W.heap) (e2 : W'.os = W.os) (e3 : W'.tape = W.tape) (e4 : W'.output = W.output) : Sd w r o W'' := by
  have hlt := (Array.getElem?_eq_some_iff.1 h.1).1
  refine ⟨(k.block r (by rw [e1]; exact hlt)).trans (by rw [e1]; exact h.1), k.os.trans (e2.trans h.2.os), k.tape.trans (e3.trans h.2.tape), k.output.trans (e4.trans h.2.output), ?_, fun b hb => ?_⟩
  · have h1 := k.size
    rw [e1] at h1
    exact Nat.le_trans h.2.size h1
  · have h1 := h.2.size
    rw [k.block b (by rw [e1]; omega), e1]
    exact h.2.block b hb
/-- A record's variable, overwritten. -/
theorem sd_stored {w w1 : World} {r : Nat} {a b c d a' b' c' d' : Value} {t : TypeId} (h : Sd w r (.cells #[a, b, c, d] t (0, 0)) w1) (hr : w.heap.size ≤ r) : Sd w r (.cells #[a', b', c', d'] t (0, 0)) ((((w1.setCell ⟨r, 0, none⟩ a').setCell ⟨r, 1, none⟩ b').setCell ⟨r, 2, none⟩ c').setCell ⟨r, 3, none⟩ d') :=
  ⟨stored h.1, h.2.trans (below_of_grown (stored_grown _ _ _ _ _ _) hr h.2.size)⟩
theorem min_le {n k m : Nat} (h : MinIs n k m) : m ≤ n := by unfold MinIs at h; omega
theorem min_sl {A : Option Addr} {n c k m : Nat} (hs : SlIs A n c) (h : MinIs n k m) : SlIs A m c := by
  have := min_le h
  obtain ⟨h1, h2, h3⟩ := hs
  exact ⟨fun e => ⟨(h1 e).1, by have := h1 e; omega⟩, by omega, h3⟩
theorem min_bs {w : World} {B : Nat} {A : Option Addr} {n k m : Nat} {l : List Nat} (hl : l.length = n) (hb : Bs w B A l) (h : MinIs n k m) : (l.take m).length = m ∧ Bs w B A (l.take m) :=
  ⟨by rw [List.length_take]; have := min_le h; omega, hb.take m⟩
/-- Two blocks stay as they are, and so does all that was there at first. -/
def Sd2 (w : World) (o0 o1 : Obj) (W : World) : Prop := W.heap[w.heap.size]? = some o0 ∧ W.heap[w.heap.size + 1]? = some o1 ∧ Below w.heap.size w W
theorem Sd2.next {w W W' W'' : World} {o0 o1 : Obj} (h : Sd2 w o0 o1 W) (k : Below W'.heap.size W' W'') (e1 : W'.heap = W.heap) (e2 : W'.os = W.os) (e3 : W'.tape = W.tape) (e4 : W'.output = W.output) : Sd2 w o0 o1 W'' := by
  have a : Sd w w.heap.size o0 W'' := Sd.next ⟨h.1, h.2.2⟩ k e1 e2 e3 e4
  have b : Sd w (w.heap.size + 1) o1 W'' := Sd.next ⟨h.2.1, h.2.2⟩ k e1 e2 e3 e4
  exact ⟨a.1, b.1, a.2⟩
theorem sd2_box {w w1 : World} {o0 o1 : Obj} {a b c a' b' c' d' : Value} {t t' : TypeId} (e0 : o0 = .cells #[a, b, c] t) (e1 : o1 = .cells #[a', b', c', d'] t') (hb : Below ((w.alloc o0).alloc o1).heap.size ((w.alloc o0).alloc o1) w1) : Sd2 w (.cells #[a, b, c] t (0, 0)) (.cells #[a', b', c', d'] t' (0, 0)) w1 := by
  subst e0 e1
  have hs : (w.alloc (.cells #[a, b, c] t)).heap.size = w.heap.size + 1 := by simp
  refine ⟨(hb.block _ (by simp; omega)).trans ((heap_alloc_old _ _ (by simp)).trans (heap_alloc_new w _)), ?_, (((Below.refl _ w).alloc (Nat.le_refl _) _).alloc (by simp) _).trans (hb.mono (by simp; omega))⟩
  exact (hb.block _ (by simp)).trans (alloc_at hs.symm)
theorem sd2_stored {w w1 : World} {o0 : Obj} {a b c d a' b' c' d' : Value} {t : TypeId} (h : Sd2 w o0 (.cells #[a, b, c, d] t (0, 0)) w1) :
    Sd2 w o0 (.cells #[a', b', c', d'] t (0, 0)) ((((w1.setCell ⟨w.heap.size + 1, 0, none⟩ a').setCell ⟨w.heap.size + 1, 1, none⟩ b').setCell ⟨w.heap.size + 1, 2, none⟩ c').setCell ⟨w.heap.size + 1, 3, none⟩ d') :=
  ⟨((stored_grown w1 (w.heap.size + 1) a' b' c' d').block _ (Array.getElem?_eq_some_iff.1 h.1).1 (fun e => by injection e with e; omega)).trans h.1, stored h.2.1, h.2.2.trans (below_of_grown (stored_grown _ _ _ _ _ _) (by omega) h.2.2.size)⟩
theorem three_cells {w : World} {g : Nat} {a b c : Value} {t : TypeId} (h : w.heap[g]? = some (.cells #[a, b, c] t (0, 0))) :
    w.cell? ⟨g, 0, none⟩ = some a ∧ w.cell? ⟨g, 1, none⟩ = some b ∧ w.cell? ⟨g, 2, none⟩ = some c := by
  refine ⟨?_, ?_, ?_⟩
  · rw [cell_of_row w g 0 _ t (0, 0) h]; rfl
  · rw [cell_of_row w g 1 _ t (0, 0) h]; rfl
  · rw [cell_of_row w g 2 _ t (0, 0) h]; rfl
theorem stored_far {w : World} {r g : Nat} {o : Obj} {a b c d : Value} (h : w.heap[g]? = some o) (hne : g < r) : ((((w.setCell ⟨r, 0, none⟩ a).setCell ⟨r, 1, none⟩ b).setCell ⟨r, 2, none⟩ c).setCell ⟨r, 3, none⟩ d).heap[g]? = some o :=
  ((stored_grown w r a b c d).block g (Array.getElem?_eq_some_iff.1 h).1 (fun e => by injection e with e; omega)).trans h
/-- Three blocks stay as they are, and so does all that was there at first. -/
def Sd3 (w : World) (o0 o1 o2 : Obj) (W : World) : Prop := W.heap[w.heap.size]? = some o0 ∧ W.heap[w.heap.size + 1]? = some o1 ∧ W.heap[w.heap.size + 2]? = some o2 ∧ Below w.heap.size w W
theorem Sd3.next {w W W' W'' : World} {o0 o1 o2 : Obj} (h : Sd3 w o0 o1 o2 W) (k : Below W'.heap.size W' W'') (e1 : W'.heap = W.heap) (e2 : W'.os = W.os) (e3 : W'.tape = W.tape) (e4 : W'.output = W.output) : Sd3 w o0 o1 o2 W'' := by
  have a : Sd w w.heap.size o0 W'' := Sd.next ⟨h.1, h.2.2.2⟩ k e1 e2 e3 e4
  have b : Sd w (w.heap.size + 1) o1 W'' := Sd.next ⟨h.2.1, h.2.2.2⟩ k e1 e2 e3 e4
  have c : Sd w (w.heap.size + 2) o2 W'' := Sd.next ⟨h.2.2.1, h.2.2.2⟩ k e1 e2 e3 e4
  exact ⟨a.1, b.1, c.1, a.2⟩
/-- 'append(out, xs...)' at a step of a region that draws its order: out the call's own, xs nil, empty or not. -/
theorem step_append_onto {P : Program} {w : World} {ops : Array Oper} {o : Oper} {a : Act} {K : Act → World → Prop} {Q : Exit → Act → World → Prop} {E : Prop} (hgd : o.guard = none) (s x : Operand) (t : TypeId)
    (ho : o.op = .call { callee := .builtin .append, args := #[s, x], argTypes := #[t, t] })
    (base : Nat) (e : TypeId) (i : TypeInfo) (z : Value) (size bytes : Nat) (ht : P.underlying t = some (.slice e)) (hi : P.info? e = some i) (hz : i.zero = some z)
    (hsize : i.size = size) (hby : i.bytes = bytes) (hzs : z.cells.size = size) (hsz : 0 < size)
    (v : Value) (n : Nat) (xs : List Value) (hs : a.eval s = v) (hown : w.ownsRow base e size v n xs)
    (A : Option Addr) (m c : Nat) (news : List Value) (hx : a.eval x = .slice A m c) (hA : A = none → m = 0 ∧ c = 0) (hl : news.length = m * size)
    (hnews : ∀ ad, A = some ad → ∀ j u, news[j]? = some u → w.cell? (ad.add j) = some u) (h1 : ∀ u ∈ news, u.oneCell' = true)
    (h63 : n + m ≤ maxLen) (hbytes : (n + m) * bytes ≤ 140737488355328) (hbase : base ≤ w.heap.size)
    (h : ∀ v' w', w'.ownsRow base e size v' (n + m) (xs ++ news) → Below base w w' → K (a.put o.dst v') w') :
    if Region.wanted o (yielded ops a.tmps) = true then Oper.wp P o a w K Q else E := by
  have hw : Region.wanted o (yielded ops a.tmps) = true := by simp [Region.wanted, hgd]
  rw [if_pos hw]
  cases A with
  | none =>
    obtain ⟨rfl, rfl⟩ := hA rfl
    have hn : news = [] := List.eq_nil_of_length_eq_zero (by simpa using hl)
    subst hn
    have hrun := run_append_owned_none (P := P) w base t o.type e i size ht hi v n xs hown
    unfold Oper.wp
    simp [execOp, ho, resolve, invoke, builtin, hs, hx, hrun, Result.andThen]
    exact h v w (by simpa using hown) (Below.refl _ _)
  | some ad =>
    exact wp_append_own w s x t ho base e i z size bytes ht hi hz hsize hby hzs hsz v n xs hs hown ad m c news hx hl (hnews ad rfl) h1 h63 hbytes hbase fun v' w' h2 h3 _ => h v' w' h2 ((Below.refl _ _).grown h3 hbase fun g e => (hown.lt g e).1)
theorem bs_lit (w : World) (l : List Nat) (hl : ∀ x ∈ l, x < 256) (fz : Nat × Nat) : Bs (w.alloc (.cells (vals l).toArray 5 fz)) (w.heap.size + 1) (some ⟨w.heap.size, 0, none⟩) l := by
  intro k hk
  refine ⟨getD_lt hl k, _, rfl, Nat.lt_succ_self _, ?_⟩
  rw [add_zero_block, cell_of_row _ _ _ _ _ _ (heap_alloc_new w _), List.getElem?_toArray, vals_at hk]
/-- What the reference's Put leaves, opened: n bytes p of its own. -/
def Row (w : World) (p : List Nat) (n : Nat) (A : Option Addr) (c : Nat) (w' : World) : Prop := w'.ownsRow w.heap.size 5 1 (.slice A n c) n (vals p) ∧ p.length = n ∧ SlIs A n c ∧ Bs w' w'.heap.size A p ∧ Below w.heap.size w w'
theorem add_pos (ad : Addr) (i : Nat) (h : 0 < i) : ad.add i = ⟨ad.block, ad.off + i, none⟩ := by
  unfold Addr.add
  rw [if_neg (by omega)]
/-- 'append([]byte(nil), x...)', x nil or not: the bytes in a row of their own. -/
theorem append_bytes {w : World} {ops : Array Oper} {rest : List Oper} {o : Oper} {a : Act} {Q : Exit → Act → World → Prop} (hgd : Region.wanted o (yielded ops a.tmps) = true) (x : Operand)
    (ho : o.op = .call { callee := .builtin .append, args := #[.const (.slice none 0 0), x], argTypes := #[40, 40] })
    (B : Nat) (A : Option Addr) (m c : Nat) (l : List Nat) (hx : a.eval x = .slice A m c) (hA : A = none → m = 0 ∧ c = 0) (hl : l.length = m) (hb : Bs w B A l) (hm : m ≤ 140737488355328)
    (h : ∀ A' c' w', SlIs A' m c' → BsIn w' w.heap.size w'.heap.size A' l → Below w.heap.size w w' → wpList Try.prog ops Q rest (a.put o.dst (.slice A' m c')) w') : wpList Try.prog ops Q (o :: rest) a w := by
  obtain ⟨i0, hi0, hz0, hz1, hz2⟩ := info_parts info_u8
  refine append_onto hgd (.const (.slice none 0 0)) x 40 ho w.heap.size 5 i0 (.int .u8 0) 1 1 Try.underlying40 hi0 hz0 hz1 hz2 rfl (by decide) _ 0 [] rfl (World.ownsRow_nil _ _ _ _) A m c (vals l) hx hA (by rw [vals_length]; omega) (fun ad e => by subst e; exact hb.cells) (vals_one _) (by unfold maxLen; omega) (by omega) (Nat.le_refl _) ?_
  intro v' w' hown hg
  rw [List.nil_append, Nat.zero_add] at hown
  obtain ⟨A', c', rfl, hbs, -, hn, hm', ho'⟩ := own_bytes hown hb.lt
  refine h A' c' w' (sl_own hn hm' ho') (own_bsin hbs ?_) ((Below.refl _ _).grown hg (Nat.le_refl _) (fun k e => by cases e))
  rcases ho' with ⟨e, _⟩ | ⟨g, h1, h2, h3⟩
  · exact .inl e
  · exact .inr ⟨g, h1, h2, h3⟩
theorem grown_below {w w' : World} {r B : Nat} (h : w.grownBy w' (some r)) (hB : B ≤ r) (hs : B ≤ w.heap.size) : Below B w w' := below_of_grown h hB hs
theorem below_drop {w w' : World} (h : Below w.drew.heap.size w.drew w') : Below w.heap.size w w' := ⟨h.os, h.tape, h.output, h.size, h.block⟩
theorem field_one {cs : List Value} {j : Nat} (hj : j < cs.length) : (cs.drop j).take 1 = [cs[j]] := by
  rw [List.take_one, List.head?_drop, List.getElem?_eq_getElem hj]; rfl
theorem int_wf64 {x : Int} (h : (Lit.int .i64 x).wf = true) : -9223372036854775808 ≤ x ∧ x ≤ 9223372036854775807 := by
  simp only [Lit.wf, Bool.and_eq_true, decide_eq_true_eq] at h
  simp [IntKind.min, IntKind.max, IntKind.signed, IntKind.bits] at h
  omega
section
open Go.ChangeShapes Go.WideShapes Go.ChangeAt
variable {H : Type} {enc : TypeId × Value → H} {P : Program} {W : World}
theorem bytes_field {t e : TypeId} {v : Value} {fuel : Nat} {x : DataW H × List MemPlace} (ht : P.underlying t = some (.slice e)) (he : P.underlying e = some (.int .u8)) (hc : P.cellsOf e = 1)
    (h : DataW.trod enc P W 0 (fun _ => true) true fuel t [v] = some x) : ∃ A n cap l, v = .slice A n cap ∧ SlIs A n cap ∧ l.length = n ∧ Bs W W.heap.size A l := by
  rcases open_ints ht he hc h with ⟨hcs, _⟩ | ⟨a, n, cap, zs, hcs, _, hl, hm, hz, _, hcell, hwz⟩
  · injection hcs with hcs
    exact ⟨none, 0, 0, [], hcs, ⟨fun _ => ⟨rfl, rfl⟩, Nat.le_refl _, by omega⟩, rfl, fun k hk => absurd hk (by simp)⟩
  · injection hcs with hcs
    have hz' : zs.length = cap := by simpa using hz
    have hlen : ((zs.take n).map Int.toNat).length = n := by rw [List.length_map, List.length_take]; omega
    refine ⟨some a, n, cap, _, hcs, ⟨(fun h => by cases h), hl, by unfold maxLen at hm; exact hm⟩, hlen, fun k hk => ?_⟩
    have hkn : k < n := by omega
    have hkz : k < zs.length := by omega
    have e2 : zs.getD k 0 = zs[k] := by rw [List.getD_eq_getElem?_getD, List.getElem?_eq_getElem hkz]; rfl
    have e1 : ((zs.take n).map Int.toNat).getD k 0 = (zs.getD k 0).toNat := by
      rw [List.getD_eq_getElem?_getD, List.getElem?_map, List.getElem?_take_of_lt hkn, e2, List.getElem?_eq_getElem hkz]; rfl
    obtain ⟨y, hy, hy2⟩ := u8_in (hwz _ (List.getElem_mem hkz))
    rw [e1, e2, hy, Int.toNat_natCast]
    have hcl := hcell k hkz
    rw [e2, hy] at hcl
    refine ⟨hy2, a, rfl, ?_, hcl⟩
    have := World.block_lt_of_cell? W _ hcl
    rwa [add_block] at this
end
end Go.Proofs.Ytcdomlgnfbdeoaa
end
