/-
  The walk of flashdev's Write.
-/
import Derived.Test.YtfacinlpkblopaaFlashMem
import Derived.Deep.MidRow
import Derived.Deep.WholeRow
import Derived.StillTailTactics
import Derived.Maps.OwnSet
namespace Go.Proofs.Ytfacinlpkblopaa
open Go.RowKit Go.Maps

/-! ### two laws on rows -/
theorem splice_nil {α : Type} (L : List α) (o : Nat) : splice L o [] = L := by simp [splice]
/-- 'copy' into a row, whatever the source. -/
theorem wpList_copy_into {P : Program} {w : World} {ops : Array Oper} {rest : List Oper} {o : Oper} {a : Act} {Q : Exit → Act → World → Prop} (hgd : o.guard = none) (d s : Operand) (dT sT : TypeId)
    (ho : o.op = .call { callee := .builtin .copy, args := #[d, s], argTypes := #[dT, sT] }) (elem : TypeId) (hu : P.underlying dT = some (.slice elem)) (hsz : (P.info? elem).map (·.size) = some 1)
    (dp sp : Option Addr) (dLen dCap sLen sCap : Nat) (hd : a.eval d = .slice dp dLen dCap) (hs : a.eval s = .slice sp sLen sCap)
    (g off : Nat) (cur : List Value) (t : TypeId) (hg : w.heap[g]? = some (.cells cur.toArray t (0, 0))) (cs : List Value) (hn : cs.length = Nat.min sLen dLen)
    (hpos : 0 < cs.length → dp = some ⟨g, off, none⟩ ∧ ∃ ad, sp = some ad ∧ ∀ j v, cs[j]? = some v → w.cell? (ad.add j) = some v)
    (hfit : off + cs.length ≤ cur.length) (h1 : ∀ v ∈ cs, v.oneCell' = true)
    (k : Nat) (hk : cs.length = k)
    (h : ∀ w', w'.heap[g]? = some (.cells (splice cur off cs).toArray t (0, 0)) → Kept (fun k => k = g) w w' → wpList P ops Q rest (a.put o.dst (.int .i64 (k : Int))) w') :
    wpList P ops Q (o :: rest) a w := by
  subst hk
  by_cases h0 : cs.length = 0
  · obtain rfl : cs = [] := List.eq_nil_of_length_eq_zero h0
    refine wpList_copy_nothing hgd d s dT sT ho elem hu hsz dp sp dLen dCap sLen sCap hd hs (by simpa using hn.symm) ?_
    exact h w (by rw [splice_nil]; exact hg) (Kept.refl _ _)
  · obtain ⟨rfl, ad, rfl, hsrc⟩ := hpos (by omega)
    refine wpList_copy_own hgd d s dT sT ho elem hu hsz g off dLen dCap ad sLen sCap hd hs cur.toArray t hg cs hn hsrc (by simpa using hfit) h1 ?_
    exact h _ (by simpa [splice] using setRow_heap w g _ _ t _ hg) (Kept.setRow w g _ rfl)
/-- 'clear' of a slice within a row, empty or not. -/
theorem wpList_clear_row {P : Program} {w : World} {ops : Array Oper} {rest : List Oper} {o : Oper} {a : Act} {Q : Exit → Act → World → Prop} (hgd : o.guard = none) (x : Operand) (st : TypeId)
    (ho : o.op = .call { callee := .builtin .clear, args := #[x], argTypes := #[st] }) (elem : TypeId) (hu : P.underlying st = some (.slice elem)) (z : Value) (hv : ∀ w, (zeroValue elem).run P w = .ok z w) (hz : z.cells = #[z]) (hz1 : z.oneCell' = true)
    (A : Option Addr) (n c : Nat) (hx : a.eval x = .slice A n c) (g off : Nat) (hA : 0 < n → A = some ⟨g, off, none⟩) (cur : List Value) (t : TypeId) (hg : w.heap[g]? = some (.cells cur.toArray t (0, 0))) (hfit : off + n ≤ cur.length)
    (h : ∀ w', w'.heap[g]? = some (.cells (splice cur off (List.replicate n z)).toArray t (0, 0)) → Kept (fun k => k = g) w w' → wpList P ops Q rest (a.put o.dst (.tuple #[])) w') :
    wpList P ops Q (o :: rest) a w := by
  refine wpList_plain hgd fun K hK' => ?_
  cases n with
  | zero =>
    have hrun : (Builtin.clear_ #[st] o.type #[.slice A 0 c]).run P w = .ok (.tuple #[]) w := by cases A <;> simp [Builtin.clear_, run_underlying hu]
    unfold Oper.wp
    simp [execOp, ho, resolve, invoke, builtin, hx, hrun, Result.andThen]
    exact hK' _ _ (h w (by rw [List.replicate_zero, splice_nil]; exact hg) (Kept.refl _ _))
  | succ n =>
    obtain rfl := hA (Nat.succ_pos n)
    have hzc : (Builtin.zeroCells z.cells (n + 1)).toList = List.replicate (n + 1) z := by
      rw [hz]
      simp only [Builtin.zeroCells]
      apply List.ext_getElem
      · simp
      · intro i h1 h2
        simp [Nat.mod_one]
    have hst := run_storeCells_at (P := P) g off t (List.replicate (n + 1) z) 0 cur.toArray w hg (by simpa using hfit) (by intro v hv'; rw [List.eq_of_mem_replicate hv']; exact hz1)
    have hrun : (Builtin.clear_ #[st] o.type #[.slice (some ⟨g, off, none⟩) (n + 1) c]).run P w = .ok (.tuple #[]) (w.setRow g (cur.take off ++ List.replicate (n + 1) z ++ cur.drop (off + (n + 1))).toArray) := by
      simp only [Nat.add_zero, List.length_replicate] at hst
      simp [Builtin.clear_, run_underlying hu, hv, hzc, hst]
    unfold Oper.wp
    simp [execOp, ho, resolve, invoke, builtin, hx, hrun, Result.andThen]
    refine hK' _ _ (h _ ?_ (Kept.setRow w g _ rfl))
    rw [setRow_heap w g _ _ t _ hg]
    simp [splice]

theorem run_arrayAt {P : Program} (w : World) (A : Option Addr) (n cap k : Nat) {t e : TypeId} (ht : P.underlying t = some (.array k e)) (h : k ≤ n) :
    (Instr.arrayAt t (.slice A n cap)).run P w = .ok (.pointer A) w := by
  simp [Instr.arrayAt, run_underlying ht, Nat.not_lt.2 h, Result.andThen]
/-- A whole array loaded out of the middle of a block, in a region that stands still. -/
theorem wpStill_load_mid {P : Program} {ops : Array Oper} {rest : List Oper} {o : Oper} {a : Act} {w : World} {Q : Act → Prop} (hw : Region.wanted o (yielded ops a.tmps) = true) (ty : TypeId) (x : Operand) (ho : o.op = .load ty x)
    (b off : Nat) (hx : a.eval x = .pointer (some ⟨b, off, none⟩)) (cs : List Value) (d : TypeDesc) (hc : w.rangeAt b off cs) (hu : P.underlying ty = some d) (hd : d.isRow = true) (hi : (P.info? ty).map (·.size) = some cs.length)
    (h : wpStill P ops w Q rest (a.put o.dst (.agg cs.toArray))) : wpStill P ops w Q (o :: rest) a := by
  refine wpStill_step fun K hK => ?_
  rw [if_pos hw]
  unfold Oper.still execOp
  simp only [ho, hx, Instr.loadAt, Instr.sureAddr, Sem.run_bind, Sem.run_pure, Result.andThen_ok, run_loadVar_mid w b off ty cs d hc hu hd hi]
  exact ⟨rfl, hK _ h⟩

/-- 's[k:]' of a slice into a row: where it begins is told only where something is left. -/
theorem run_slice_tail {P : Program} {t e : TypeId} (ht : P.underlying t = some (.slice e)) (hsz : (P.info? e).map (·.size) = some 1) (c off n cap k : Nat) (hk : k ≤ n) (hn : n ≤ cap) :
    ∃ A, (k < n → A = some ⟨c, off + k, none⟩) ∧ ∀ w, (Instr.sliceAt t (.slice (some ⟨c, off, none⟩) n cap) (some (.int .i64 (k : Int))) none none).run P w = .ok (.slice A (n - k) (cap - k)) w := by
  refine ⟨if cap = k then some ⟨c, off, none⟩ else some ((⟨c, off, none⟩ : Addr).add k), fun h => ?_, fun w => ?_⟩
  · rw [if_neg (by omega), Addr.add_mid]
  · cases hq : P.info? e with
    | none => simp [hq] at hsz
    | some i =>
      have hs : i.size = 1 := by simpa [hq] using hsz
      simp [Instr.sliceAt, Instr.slice, Instr.sliceBounds, Instr.sliceBound, asIntOf, run_underlying ht, sizeOf, typeInfo, hq, hs, hk, Result.andThen]
theorem wpList_slice_tail {P : Program} {w : World} {ops : Array Oper} {rest : List Oper} {o : Oper} {a : Act} {Q : Exit → Act → World → Prop} (hgd : o.guard = none) (x lo : Operand) (t : TypeId)
    (ho : o.op = .slice t x (some lo) none none) (e : TypeId) (ht : P.underlying t = some (.slice e)) (hsz : (P.info? e).map (·.size) = some 1) (c off n cap k : Nat)
    (hx : a.eval x = .slice (some ⟨c, off, none⟩) n cap) (hlo : a.eval lo = .int .i64 (k : Int)) (hk : k ≤ n) (hn : n ≤ cap)
    (h : ∀ A, (k < n → A = some ⟨c, off + k, none⟩) → wpList P ops Q rest (a.put o.dst (.slice A (n - k) (cap - k))) w) : wpList P ops Q (o :: rest) a w := by
  refine wpList_plain hgd fun K hK' => ?_
  obtain ⟨A, hA, hrun⟩ := run_slice_tail ht hsz c off n cap k hk hn
  unfold Oper.wp
  simp [execOp, ho, hx, hlo, hrun, Result.andThen]
  exact hK' _ _ (h A hA)
theorem u8_cells : Value.cells (.int .u8 0) = #[.int .u8 0] := rfl
theorem u8_one : (Value.int .u8 0).oneCell' = true := rfl
/-! ### what a Write makes of a device -/
def pad (b : List Nat) : List Nat := b ++ List.replicate (64 - b.length) 0
def putSec (l : List Nat) (i : Nat) (p : List Nat) : List Nat := l.take (i * 64) ++ p ++ l.drop (i * 64 + 64)
theorem pad_len {b : List Nat} (h : b.length ≤ 64) : (pad b).length = 64 := by unfold pad; rw [List.length_append, List.length_replicate]; omega
theorem pad_lt {b : List Nat} (h : ∀ x ∈ b, x < 256) : ∀ x ∈ pad b, x < 256 := fun x hx => by
  rcases List.mem_append.1 hx with h1 | h1
  · exact h x h1
  · rw [List.eq_of_mem_replicate h1]; decide
theorem putSec_len {l p : List Nat} {n i : Nat} (hl : l.length = n * 64) (hi : i < n) (hp : p.length = 64) : (putSec l i p).length = n * 64 := by
  unfold putSec; rw [List.length_append, List.length_append, List.length_take, List.length_drop, hp]; omega
theorem putSec_lt {l p : List Nat} {i : Nat} (hl : ∀ x ∈ l, x < 256) (hp : ∀ x ∈ p, x < 256) : ∀ x ∈ putSec l i p, x < 256 := fun x hx => by
  unfold putSec at hx
  rcases List.mem_append.1 hx with h1 | h1
  · rcases List.mem_append.1 h1 with h2 | h2
    · exact hl x (List.mem_of_mem_take h2)
    · exact hp x h2
  · exact hl x (List.mem_of_mem_drop h1)
/-- The two stores of a Write. -/
theorem splice_pad {l b : List Nat} {n i : Nat} {rest : List Value} (hl : l.length = n * 64) (hi : i < n) (hb : b.length ≤ 64) :
    splice (splice (vals l ++ rest) (i * 64) (vals b)) (i * 64 + b.length) (List.replicate (64 - b.length) (.int .u8 0)) = vals (putSec l i (pad b)) ++ rest := by
  have hz : List.replicate (64 - b.length) (Value.int .u8 0) = vals (List.replicate (64 - b.length) 0) := by simp [vals]
  have e1 : splice (vals l ++ rest) (i * 64) (vals b) = vals (l.take (i * 64)) ++ vals b ++ vals (l.drop (i * 64 + b.length)) ++ rest := by
    unfold splice
    rw [vals_length, List.take_append_of_le_length (by rw [vals_length]; omega), List.drop_append_of_le_length (by rw [vals_length]; omega)]
    simp [vals, List.map_take, List.map_drop]
  rw [e1, hz]
  unfold splice
  have h1 : (vals (l.take (i * 64)) ++ vals b).length = i * 64 + b.length := by rw [List.length_append, vals_length, vals_length, List.length_take]; omega
  have e2 : (vals (l.take (i * 64)) ++ vals b ++ vals (l.drop (i * 64 + b.length)) ++ rest).take (i * 64 + b.length) = vals (l.take (i * 64)) ++ vals b := by
    rw [List.append_assoc, List.take_append_of_le_length (by omega), List.take_of_length_le (by omega)]
  have e3 : (vals (l.take (i * 64)) ++ vals b ++ vals (l.drop (i * 64 + b.length)) ++ rest).drop (i * 64 + b.length + (vals (List.replicate (64 - b.length) 0)).length) = vals (l.drop (i * 64 + 64)) ++ rest := by
    rw [vals_length, List.length_replicate, List.append_assoc, List.drop_append, h1, List.drop_eq_nil_of_le (by omega), List.nil_append, show i * 64 + b.length + (64 - b.length) - (i * 64 + b.length) = 64 - b.length by omega,
      List.drop_append_of_le_length (by rw [vals_length, List.length_drop]; omega)]
    unfold vals
    rw [← List.map_drop, List.drop_drop, show i * 64 + b.length + (64 - b.length) = i * 64 + 64 by omega]
  rw [e2, e3]
  simp [putSec, pad, vals]
def Flash.wrote (s : Flash) (i : Nat) (b : List Nat) : Flash :=
  { s with cur := putSec s.cur i (pad b), old := fun k => if k = i then some ((s.old i).getD (sec s.cur i)) else s.old k, wr := s.wr + 1 }
def Flash.writeErr (s : Flash) (n : Nat) (i : Int) (b : List Nat) : Int :=
  if s.dead = true then 1 else if i < 0 ∨ (n : Int) ≤ i then 2 else if 64 < b.length then 3 else if s.lasts = true then 0 else 1
def Flash.write (s : Flash) (n : Nat) (i : Int) (b : List Nat) : Flash :=
  if s.dead = true ∨ i < 0 ∨ (n : Int) ≤ i ∨ 64 < b.length then s else if s.lasts = true then s.burnt.wrote i.toNat b else s.burnt
theorem old_put {D : DataW Value} {n i : Nat} {old : Nat → Option (List Nat)} {l : List Nat} (h : OldIs D n old) (hm : IsMap D) (hi : i < n) (hl : l.length = 64) (hb : ∀ x ∈ l, x < 256) :
    OldIs (D.put (.int .i64 (i : Int)) (.held (oldVal l))) n (fun k => if k = i then some l else old k) := by
  refine ⟨fun k hk => ?_, fun x hx => ?_, fun k l' hl' z => ?_, fun k hk => ?_, fun k l' hl' => ?_⟩
  · by_cases e : k = i
    · subst e
      rw [has_put_same hm (isKey_int _), if_pos rfl]; rfl
    · rw [has_put_other (fun e' => e (by injection e' with _ e'; omega)), h.has k hk, if_neg e]
  · by_cases e : x = (i : Int)
    · exact ⟨i, hi, e⟩
    · rw [has_put_other (fun e' => e (by injection e'))] at hx
      exact h.keys x hx
  · by_cases e : k = i
    · subst e
      rw [if_pos rfl] at hl'
      injection hl' with hl'
      subst hl'
      exact atKey_put_same hm (isKey_int _) _ _
    · rw [if_neg e] at hl'
      rw [atKey_put_other (fun e' => e (by injection e' with _ e'; omega))]
      exact h.at_ k l' hl' z
  · rw [if_neg (by omega)]; exact h.none k hk
  · by_cases e : k = i
    · rw [if_pos e] at hl'
      injection hl' with hl'
      subst hl'
      exact ⟨hl, hb⟩
    · rw [if_neg e] at hl'
      exact h.len k l' hl'
theorem zero_info : (Try.prog.info? 53).map (fun i => (i.zero, i.size)) = some (some (oldVal (List.replicate 64 0)), 64) := by kernel_rfl
theorem zero64 (w : World) : (zeroValue 53).run Try.prog w = .ok (oldVal (List.replicate 64 0)) w := (zero_of_info zero_info).1 w
theorem size64 : (Try.prog.info? 53).map (·.size) = some 64 := (zero_of_info zero_info).2
/-- What a look-up of an old sector yields. -/
theorem old_look {D : DataW Value} {n i : Nat} {old : Nat → Option (List Nat)} (h : OldIs D n old) (hi : i < n) {v : Value} {ps : List MemPlace} (hv : rawElem v = some (D.atKey (.int .i64 (i : Int)) (.held (oldVal (List.replicate 64 0))), ps)) :
    v = oldVal ((old i).getD (List.replicate 64 0)) := by
  unfold rawElem at hv
  injection hv with hv
  injection hv with hv _
  cases ho : old i with
  | none =>
    have hh := h.has i hi
    rw [ho] at hh
    rw [atKey_of_not_has hh] at hv
    injection hv
  | some l =>
    rw [h.at_ i l ho] at hv
    injection hv
theorem old_shape {D : DataW Value} {n i : Nat} {old : Nat → Option (List Nat)} (h : OldIs D n old) (hi : i < n) {v : Value} {ps : List MemPlace} (hv : rawElem v = some (D.atKey (.int .i64 (i : Int)) (.held (oldVal (List.replicate 64 0))), ps)) :
    ∃ cs : List Value, v = .agg cs.toArray ∧ cs.length = 64 ∧ ∀ u ∈ cs, u.oneCell' = true := by
  have e := old_look h hi hv
  refine ⟨_, e, ?_, vals_one _⟩
  rw [vals_length]
  cases ho : old i with
  | none => rfl
  | some l => exact (h.len i l ho).1
/-- A whole variable stored, the world behind it under a name. -/
theorem wpList_store_var {P : Program} {ops : Array Oper} {rest : List Oper} {o : Oper} {a : Act} {w : World} {Q : Exit → Act → World → Prop} (hgd : o.guard = none) (ty : TypeId) (x y : Operand) (ho : o.op = .store ty x y)
    (g : Nat) (cs : List Value) (hx : a.eval x = .pointer (some ⟨g, 0, none⟩)) (hy : a.eval y = .agg cs.toArray)
    (t : TypeId) (hg : ∃ old : Array Value, w.heap[g]? = some (.cells old t (0, 0)) ∧ old.size = cs.length) (hi : (P.info? ty).map (·.size) = some cs.length)
    (h1 : ∀ u ∈ cs, u.oneCell' = true)
    (h : ∀ w', w'.heap[g]? = some (.cells cs.toArray t (0, 0)) → Kept (fun k => k = g) w w' → wpList P ops Q rest (a.put o.dst undef) w') : wpList P ops Q (o :: rest) a w :=
  let ⟨old, hg, hold⟩ := hg
  wpList_store_row hgd ty x y ho g cs.toArray hx hy t old hg (by simpa using hi) (by simpa using hold) (all_oneCell_toArray h1) (h _ (setRow_heap w g _ _ t _ hg) (Kept.setRow w g _ rfl))
section
variable {g c m n : Nat} {s : Flash} {w w' : World}
theorem dev_turned {N : Nat} {D' : DataW Value} {old' : Nat → Option (List Nat)} (h : Dev w g c m n s) (hk : Kept (fun k => k = m) w w') (hm' : w'.ownsMap Try.prog 3 rawElem m N D') (ho' : OldIs D' n old') : Dev w' g c m n { s with old := old' } := by
  obtain ⟨h1, h2, h3⟩ := h.apart
  obtain ⟨l1, l2, l3⟩ := h.lt
  obtain ⟨rest, D, hh, hc, hm, ho, hl, hb, hn1, hn2, hcap, hgc, hfu⟩ := h
  exact ⟨rest, D', (hk.block g l1 h2).trans hh, (hk.block c l2 h3).trans hc, ownsMap_size hm', ho', hl, hb, hn1, hn2, hcap, hgc, hfu⟩
/-- Bytes that came in lie neither in the struct nor in the map. -/
theorem bs_apart (h : Dev w g c m n s) {B : Nat} {A : Option Addr} {b : List Nat} (hb : Bs w B A b) : ∀ ad, A = some ad → 0 < b.length → ¬ (ad.block = g ∨ ad.block = m) := fun ad e hl => by
  subst e
  obtain ⟨h1, ad', e, h3, h4⟩ := hb 0 hl
  injection e with e
  subst e
  obtain ⟨rest, D, hh, hc, ⟨es, clock, hm, _⟩, ho, _⟩ := h
  rintro (rfl | rfl)
  · unfold World.cell? at h4
    rw [add_block, hh] at h4
    dsimp only at h4
    split at h4
    · cases h4
    · generalize (ad.add 0).off = o at h4
      match o, h4 with
      | 0, h4 => cases h4
      | 1, h4 => cases h4
      | 2, h4 => cases h4
      | 3, h4 => cases h4
      | 4, h4 => cases h4
      | 5, h4 => cases h4
      | o + 6, h4 => simp at h4
  · unfold World.cell? at h4
    rw [add_block, hm] at h4
    cases h4
theorem dev_row {rest : List Value} {D : DataW Value} {cur' : List Nat} (h : Dev w g c m n s)
    (hh : w.heap[g]? = some (.cells #[.slice (some ⟨c, 0, none⟩) (n * 64) (n * 64 + rest.length), .map (some m), .int .i64 (s.wr : Int), .bool s.fused, .int .i64 s.fuse, .bool s.dead] 57 (0, 0)))
    (hm : w.ownsMap Try.prog 3 rawElem m (Maps.size D) D) (ho : OldIs D n s.old)
    (hcap : n * 64 + rest.length ≤ 9223372036854775807) (hk : Kept (fun k => k = c) w w') (hc' : w'.heap[c]? = some (.cells (vals cur' ++ rest).toArray 5 (0, 0))) (hl : cur'.length = n * 64) (hb : ∀ x ∈ cur', x < 256) : Dev w' g c m n { s with cur := cur' } := by
  obtain ⟨h1, h2, h3⟩ := h.apart
  obtain ⟨l1, l2, l3⟩ := h.lt
  exact ⟨rest, D, (hk.block g l1 h1).trans hh, hc', ownsMap_block hm (hk.block m l3 (fun e => h3 e.symm)), ho, hl, hb, h.n_le.1, h.n_le.2, hcap, h1, h.fuse_in⟩
def WriteDid (w : World) (g c m n : Nat) (s : Flash) (k : Int) (e : Ending) (w' : World) : Prop := e = .returned (.int .i64 k) ∧ Dev w' g c m n s ∧ Kept (devS g c m) w w'
set_option maxHeartbeats 1000000 in
theorem write_new (A : Option Addr) (B k cb : Nat) (b : List Nat) (i : Nat) (hi : i < n) (hk : k ≤ 64) (hl : Hid (b.length = k)) (hb : Hid (Bs w B A b))
    (hd : Hid (Dev w g c m n s)) (hdead : Hid (s.dead = false)) (hlast : Hid (s.lasts = true)) (hwr : s.wr < 4611686018427387904) (ho : Hid (s.old i = none)) :
    Calls Try.prog 11 #[.pointer (some ⟨g, 0, none⟩), .int .i64 (i : Int), .slice A k cb] w (WriteDid w g c m n (s.burnt.wrote i b) 0) := by
  have hz : decide (0 ≤ (i : Int) ∧ (i : Int) < (n : Int)) = true := by simp; omega
  have hn := hd.out.n_le
  have hkey := keyInt i (by omega)
  have HK := Lib.hid hkey; clear hkey
  have hwr1 : s.burnt.wr < 4611686018427387904 := by rw [(burnt_cur s).2.2]; exact hwr
  go_enter Try.func11, Try.ntmps11
  go_wp2_with (first
    | (go_at_call 25; refine (dead_any hd).mono ?_; rw [hdead.out]; rintro e w' ⟨rfl, rfl⟩)
    | (go_at_call 33; refine (has_any _ hd).mono ?_; rw [hz]; rintro e w' ⟨rfl, rfl⟩)
    | (go_at_call 34; refine (burn_any hd).mono ?_; rw [hlast.out]; rintro e w1 ⟨rfl, hd1, hk1⟩; have HD := Lib.hid hd1; have HK1 := Lib.hid hk1; obtain ⟨rest, D, hh, hc, hm, hrest⟩ := hd1; obtain ⟨⟨-, c1, -⟩, -⟩ := rd6 hh; have HM := Lib.hid (And.intro hh (And.intro hc (And.intro hm hrest))); clear hh hc hm hrest hk1)
    | (go_at_call 35; refine (sector_any i _ rfl hi HD).mono ?_; rintro e w' ⟨cap, rfl, hc1, hc2, rfl⟩)
    | (at_lookup; refine wpList_lookup_own_ok _ rfl _ _ 55 rfl 3 53 lawI Try.underlying55 rawElem (zero64 _) (.held (oldVal (List.replicate 64 0))) [] rfl m _ D rfl HM.out.2.2.1 _ _ rfl HK.out ?_; intro v ps hv; obtain ⟨cs, rfl, hcs, hcs1⟩ := old_shape HM.out.2.2.2.1 hi hv; rw [HM.out.2.2.2.1.has i hi, (burnt_cur s).2.1, ho.out]; have HCS := Lib.hid (And.intro hcs (And.intro (show (Try.prog.info? 53).map (·.size) = some cs.length by rw [hcs]; exact size64) hcs1)); clear hv hcs hcs1)
    | (with_reducible refine wpList_store_var rfl 53 (.tmp 8) (.tmp 32) rfl w1.heap.size cs rfl rfl 53 ?_ HCS.out.2.1 HCS.out.2.2 ?_
       · exact ⟨_, heap_alloc_new _ _, by rw [HCS.out.1]; rfl⟩
       intro w2 hw2 hk2; clear hw2))
  have HD2 : Hid (Dev w2 g c m n s.burnt ∧ Kept (fun k => k = g) w w2) := by
    obtain ⟨l1, l2, l3⟩ := HD.out.lt
    have ka : Kept (fun k => k = w1.heap.size) w1 w2 := (Kept.alloc w1 _).trans hk2
    exact ⟨HD.out.kept ka (by omega) (by omega) (by omega), HK1.out.trans' ka (fun k e h => absurd h (by have := HK1.out.size; omega))⟩
  obtain ⟨rest2, D2, hh, hc, hm, hrest⟩ := HD2.out.1
  obtain ⟨⟨-, c2, -⟩, -⟩ := rd6 hh
  have HR : Hid (w2.rangeAt c (i * 64) (vals (sec s.burnt.cur i)) ∧ (Try.prog.info? 53).map (·.size) = some (vals (sec s.burnt.cur i)).length) := by
    refine ⟨fun j v hv => ?_, by rw [vals_length, sec_len HD2.out.1.cur_len hi]; exact size64⟩
    obtain ⟨hj, rfl⟩ := vals_get hv
    obtain ⟨_, ad, e, _, hcell⟩ := HD2.out.1.sec hi j hj
    injection e with e
    subst e
    rw [add_flat] at hcell
    exact hcell
  have harr := fun w => run_arrayAt (P := Try.prog) w (some ⟨c, i * 64, none⟩) 64 cap 64 Try.underlying53 (Nat.le_refl _)
  have HM2 := Lib.hid (And.intro hh (And.intro hc (And.intro hm hrest))); clear hh hc hm hrest c1 HM
  refine wp_region_still_tail 8 (by kernel_rfl) (by kernel_rfl) ?_
  simp only [List.take_succ_cons, List.take_zero, List.drop_succ_cons, List.drop_zero]
  iterate 7 still_step
  refine wpStill_load_mid rfl 53 (.tmp 42) rfl c (i * 64) rfl (vals (sec s.burnt.cur i)) _ HR.out.1 Try.underlying53 rfl HR.out.2 ?_
  clear harr c2
  refine wpStill_nil ?_
  change wpList _ _ _ _ _ w2.drew
  have HD3 : Hid (Dev w2.drew g c m n s.burnt ∧ Kept (fun k => k = g) w w2.drew) := ⟨HD2.out.1, HD2.out.2.drewN 1⟩
  have HM3 : Hid (w2.drew.ownsMap Try.prog 3 rawElem m (Maps.size D2) D2 ∧ OldIs D2 n s.burnt.old) := ⟨HM2.out.2.2.1, HM2.out.2.2.2.1⟩
  have HSZ : Hid (Maps.size D2 < maxLen) := by
    have h1 := (size_dirty HM3.out.1 HM3.out.2).2
    have h2 := dirty_le n s.burnt.old
    unfold Hid maxLen
    omega
  generalize w2.drew = w3 at HD3 HM3 ⊢
  clear HD2 HM2 hk2 HD HK1
  have HB : Hid (∀ ad, A = some ad → 0 < b.length → ¬ (ad.block = g ∨ ad.block = m)) := bs_apart hd.out hb.out
  have HI : Hid ((Try.prog.info? 5).map (·.size) = some 1 ∧ (∀ w, (zeroValue 5).run Try.prog w = .ok (.int .u8 0) w) ∧ (vals b).length = k ∧ (vals b).length = Nat.min k 64) :=
    ⟨by kernel_rfl, fun _ => by kernel_rfl, by rw [vals_length, hl.out], by rw [vals_length, hl.out]; exact (Nat.min_eq_left hk).symm⟩
  go_wp2_with (first
    | (at_mapUpdate; refine wpList_mapUpdate_own _ rfl _ _ _ 55 rfl 3 53 lawI Try.underlying55 rawElem m _ D2 rfl HM3.out.1 HSZ.out (.int .i64 (i : Int)) (oldVal (sec s.burnt.cur i)) (.int .i64 (i : Int)) rfl rfl HK.out (.held (oldVal (sec s.burnt.cur i))) [] rfl ?_; intro w4 hown4 hg4
       have HD4 : Hid (Dev w4 g c m n { s.burnt with old := fun k => if k = i then some (sec s.burnt.cur i) else s.burnt.old k } ∧ Kept (devS g c m) w w4 ∧ Bs w4 B A b) := by
         have k4 : Kept (fun k => k = m) w3 w4 := Kept.of_grown hg4 (fun _ e => (Option.some.inj e).symm)
         have k5 : Kept (fun k => k = g ∨ k = m) w w4 := (HD3.out.2.mono fun k _ e => .inl e).trans (k4.mono fun k _ e => .inr e)
         refine ⟨dev_turned HD3.out.1 k4 hown4 (old_put HM3.out.2 HM3.out.1.isMap hi (sec_len HD3.out.1.cur_len hi) (fun x hx => ?_)), k5.mono (fun k _ e => e.elim .inl (fun e => .inr (.inr e))), hb.out.kept k5 HB.out⟩
         unfold sec at hx
         exact HD3.out.1.cur_lt x (List.mem_of_mem_drop (List.mem_of_mem_take hx))
       clear hown4 hg4
       obtain ⟨rest4, D4, hh, hc, hm, hrest⟩ := HD4.out.1
       have HM4 := Lib.hid (And.intro hh (And.intro hc (And.intro hm hrest))); clear hh hc hm hrest)
    | (with_reducible refine wpList_copy_into rfl (.tmp 45) (.tmp 46) 27 27 rfl 5 Try.underlying27 HI.out.1 (some ⟨c, i * 64, none⟩) A 64 cap k cb rfl rfl c (i * 64) (vals s.burnt.cur ++ rest4) 5 HM4.out.2.1 (vals b) HI.out.2.2.2 ?_ ?_ (vals_one b) k HI.out.2.2.1 ?_
       · intro hp
         refine ⟨rfl, ?_⟩
         rw [vals_length] at hp
         obtain ⟨_, ad, rfl, _, _⟩ := HD4.out.2.2 0 hp
         exact ⟨ad, rfl, HD4.out.2.2.cells⟩
       · have h1 := HI.out.2.2.1
         have h2 := HD4.out.1.cur_len
         rw [List.length_append, h1, vals_length]
         have h3 : s.burnt.cur.length = n * 64 := h2
         omega
       intro w5 hc5 hk5
       have HC5 := Lib.hid hc5; clear hc5)
    | (with_reducible refine wpList_slice_tail rfl (.tmp 44) (.tmp 47) 27 rfl 5 Try.underlying27 HI.out.1 c (i * 64) 64 cap k rfl rfl hk hc1 ?_; intro A6 hA6; have HA6 := Lib.hid hA6; clear hA6)
    | (with_reducible refine wpList_clear_row rfl (.tmp 48) 27 rfl 5 Try.underlying27 (.int .u8 0) HI.out.2.1 u8_cells u8_one A6 (64 - k) (cap - k) rfl c (i * 64 + k) ?_ (splice (vals s.burnt.cur ++ rest4) (i * 64) (vals b)) 5 HC5.out ?_ ?_
       · intro h
         exact HA6.out (by omega)
       · have h1 := HI.out.2.2.1
         have h3 : s.burnt.cur.length = n * 64 := HD4.out.1.cur_len
         rw [length_splice _ _ _ (by rw [List.length_append, h1, vals_length]; omega), List.length_append, vals_length]
         omega
       intro w6 hc6 hk6
       have HD6 : Hid (Dev w6 g c m n { s.burnt with old := fun k => if k = i then some (sec s.burnt.cur i) else s.burnt.old k, cur := putSec s.burnt.cur i (pad b) } ∧ Kept (devS g c m) w w6) := by
         have h3 : s.burnt.cur.length = n * 64 := HD4.out.1.cur_len
         have h4 : b.length ≤ 64 := by rw [hl.out]; exact hk
         have k6 : Kept (fun k => k = c) w4 w6 := hk5.trans hk6
         have e := splice_pad (rest := rest4) h3 hi h4
         rw [hl.out] at e
         rw [e] at hc6
         refine ⟨dev_row HD4.out.1 HM4.out.1 HM4.out.2.2.1 HM4.out.2.2.2.1 HM4.out.2.2.2.2.2.2.2.2.1 k6 hc6 (putSec_len h3 hi (pad_len h4)) (putSec_lt HD4.out.1.cur_lt (pad_lt hb.out.lt)), HD4.out.2.1.trans (k6.mono fun k _ e => .inr (.inl e))⟩
       clear hc6
       obtain ⟨rest6, D6, hh, hc, hm, hrest⟩ := HD6.out.1
       obtain ⟨⟨-, -, c2, -⟩, -, -, f2, -⟩ := rd6 hh
       have HM6 := Lib.hid (And.intro hh (And.intro hc (And.intro hm hrest))); clear hh hc hm hrest))
  go_ret
  have K7 : Kept (fun k => k = g) w6 (w6.setCell ⟨g, 2, none⟩ (.int .i64 ((s.burnt.wr : Int) + 1))) := Kept.setCell (S := fun k => k = g) w6 ⟨g, 2, none⟩ _ rfl
  have e : s.burnt.wrote i b = { s.burnt with old := fun k => if k = i then some (sec s.burnt.cur i) else s.burnt.old k, cur := putSec s.burnt.cur i (pad b), wr := s.burnt.wr + 1 } := by
    have h0 : s.burnt.old i = none := by rw [(burnt_cur s).2.1]; exact ho.out
    unfold Flash.wrote
    rw [h0]; rfl
  refine ⟨rfl, ?_, HD6.out.2.trans (K7.mono fun k _ e => .inl e)⟩
  rw [e]
  refine dev_struct HD6.out.1 _ rfl rfl HD6.out.1.fuse_in K7 (fun a0 a1 h => ?_)
  simp [World.setCell, Array.getElem?_modify, h]
set_option maxHeartbeats 1000000 in
theorem write_again (A : Option Addr) (B k cb : Nat) (b : List Nat) (i : Nat) (hi : i < n) (hk : k ≤ 64) (hl : Hid (b.length = k)) (hb : Hid (Bs w B A b))
    (hd : Hid (Dev w g c m n s)) (hdead : Hid (s.dead = false)) (hlast : Hid (s.lasts = true)) (hwr : s.wr < 4611686018427387904) (lo : List Nat) (ho : Hid (s.old i = some lo)) :
    Calls Try.prog 11 #[.pointer (some ⟨g, 0, none⟩), .int .i64 (i : Int), .slice A k cb] w (WriteDid w g c m n (s.burnt.wrote i b) 0) := by
  have hz : decide (0 ≤ (i : Int) ∧ (i : Int) < (n : Int)) = true := by simp; omega
  have hn := hd.out.n_le
  have hkey := keyInt i (by omega)
  have HK := Lib.hid hkey; clear hkey
  have hwr1 : s.burnt.wr < 4611686018427387904 := by rw [(burnt_cur s).2.2]; exact hwr
  have HB : Hid (∀ ad, A = some ad → 0 < b.length → ¬ (ad.block = g ∨ ad.block = m)) := bs_apart hd.out hb.out
  have HI : Hid ((Try.prog.info? 5).map (·.size) = some 1 ∧ (∀ w, (zeroValue 5).run Try.prog w = .ok (.int .u8 0) w) ∧ (vals b).length = k ∧ (vals b).length = Nat.min k 64) :=
    ⟨by kernel_rfl, fun _ => by kernel_rfl, by rw [vals_length, hl.out], by rw [vals_length, hl.out]; exact (Nat.min_eq_left hk).symm⟩
  go_enter Try.func11, Try.ntmps11
  go_wp2_with (first
    | (go_at_call 25; refine (dead_any hd).mono ?_; rw [hdead.out]; rintro e w' ⟨rfl, rfl⟩)
    | (go_at_call 33; refine (has_any _ hd).mono ?_; rw [hz]; rintro e w' ⟨rfl, rfl⟩)
    | (go_at_call 34; refine (burn_any hd).mono ?_; rw [hlast.out]; rintro e w1 ⟨rfl, hd1, hk1⟩; have HD := Lib.hid hd1; have HK1 := Lib.hid hk1; obtain ⟨rest, D, hh, hc, hm, hrest⟩ := hd1; obtain ⟨⟨-, c1, -⟩, -⟩ := rd6 hh; have HM := Lib.hid (And.intro hh (And.intro hc (And.intro hm hrest))); clear hh hc hm hrest hk1)
    | (go_at_call 35; refine (sector_any i _ rfl hi HD).mono ?_; rintro e w' ⟨cap, rfl, hc1, hc2, rfl⟩)
    | (at_lookup; refine wpList_lookup_own_ok _ rfl _ _ 55 rfl 3 53 lawI Try.underlying55 rawElem (zero64 _) (.held (oldVal (List.replicate 64 0))) [] rfl m _ D rfl HM.out.2.2.1 _ _ rfl HK.out ?_; intro v ps hv; obtain ⟨cs, rfl, hcs, hcs1⟩ := old_shape HM.out.2.2.2.1 hi hv; rw [HM.out.2.2.2.1.has i hi, (burnt_cur s).2.1, ho.out]; have HCS := Lib.hid (And.intro hcs (And.intro (show (Try.prog.info? 53).map (·.size) = some cs.length by rw [hcs]; exact size64) hcs1)); clear hv hcs hcs1)
    | (with_reducible refine wpList_store_var rfl 53 (.tmp 8) (.tmp 32) rfl w1.heap.size cs rfl rfl 53 ?_ HCS.out.2.1 HCS.out.2.2 ?_
       · exact ⟨_, heap_alloc_new _ _, by rw [HCS.out.1]; rfl⟩
       intro w2 hw2 hk2; clear hw2
       have HD4 : Hid (Dev w2 g c m n s.burnt ∧ Kept (devS g c m) w w2 ∧ Bs w2 B A b) := by
         obtain ⟨l1, l2, l3⟩ := HD.out.lt
         have ka : Kept (fun k => k = w1.heap.size) w1 w2 := (Kept.alloc w1 _).trans hk2
         have k5 : Kept (fun k => k = g) w w2 := HK1.out.trans' ka (fun k e h => absurd h (by have := HK1.out.size; omega))
         exact ⟨HD.out.kept ka (by omega) (by omega) (by omega), k5.mono (fun k _ e => .inl e), hb.out.kept k5 (fun ad e h h' => HB.out ad e h (.inl h'))⟩
       clear hk2
       obtain ⟨rest4, D4, hh, hc, hm, hrest⟩ := HD4.out.1
       have HM4 := Lib.hid (And.intro hh (And.intro hc (And.intro hm hrest))); clear hh hc hm hrest)
    | (with_reducible refine wpList_copy_into rfl (.tmp 45) (.tmp 46) 27 27 rfl 5 Try.underlying27 HI.out.1 (some ⟨c, i * 64, none⟩) A 64 cap k cb rfl rfl c (i * 64) (vals s.burnt.cur ++ rest4) 5 HM4.out.2.1 (vals b) HI.out.2.2.2 ?_ ?_ (vals_one b) k HI.out.2.2.1 ?_
       · intro hp
         refine ⟨rfl, ?_⟩
         rw [vals_length] at hp
         obtain ⟨_, ad, rfl, _, _⟩ := HD4.out.2.2 0 hp
         exact ⟨ad, rfl, HD4.out.2.2.cells⟩
       · have h1 := HI.out.2.2.1
         have h2 := HD4.out.1.cur_len
         rw [List.length_append, h1, vals_length]
         have h3 : s.burnt.cur.length = n * 64 := h2
         omega
       intro w5 hc5 hk5
       have HC5 := Lib.hid hc5; clear hc5)
    | (with_reducible refine wpList_slice_tail rfl (.tmp 44) (.tmp 47) 27 rfl 5 Try.underlying27 HI.out.1 c (i * 64) 64 cap k rfl rfl hk hc1 ?_; intro A6 hA6; have HA6 := Lib.hid hA6; clear hA6)
    | (with_reducible refine wpList_clear_row rfl (.tmp 48) 27 rfl 5 Try.underlying27 (.int .u8 0) HI.out.2.1 u8_cells u8_one A6 (64 - k) (cap - k) rfl c (i * 64 + k) ?_ (splice (vals s.burnt.cur ++ rest4) (i * 64) (vals b)) 5 HC5.out ?_ ?_
       · intro h
         exact HA6.out (by omega)
       · have h1 := HI.out.2.2.1
         have h3 : s.burnt.cur.length = n * 64 := HD4.out.1.cur_len
         rw [length_splice _ _ _ (by rw [List.length_append, h1, vals_length]; omega), List.length_append, vals_length]
         omega
       intro w6 hc6 hk6
       have HD6 : Hid (Dev w6 g c m n { s.burnt with cur := putSec s.burnt.cur i (pad b) } ∧ Kept (devS g c m) w w6) := by
         have h3 : s.burnt.cur.length = n * 64 := HD4.out.1.cur_len
         have h4 : b.length ≤ 64 := by rw [hl.out]; exact hk
         have k6 : Kept (fun k => k = c) w2 w6 := hk5.trans hk6
         have e := splice_pad (rest := rest4) h3 hi h4
         rw [hl.out] at e
         rw [e] at hc6
         refine ⟨dev_row HD4.out.1 HM4.out.1 HM4.out.2.2.1 HM4.out.2.2.2.1 HM4.out.2.2.2.2.2.2.2.2.1 k6 hc6 (putSec_len h3 hi (pad_len h4)) (putSec_lt HD4.out.1.cur_lt (pad_lt hb.out.lt)), HD4.out.2.1.trans (k6.mono fun k _ e => .inr (.inl e))⟩
       clear hc6
       obtain ⟨rest6, D6, hh, hc, hm, hrest⟩ := HD6.out.1
       obtain ⟨⟨-, -, c2, -⟩, -, -, f2, -⟩ := rd6 hh
       have HM6 := Lib.hid (And.intro hh (And.intro hc (And.intro hm hrest))); clear hh hc hm hrest))
  go_ret
  have K7 : Kept (fun k => k = g) w6 (w6.setCell ⟨g, 2, none⟩ (.int .i64 ((s.burnt.wr : Int) + 1))) := Kept.setCell (S := fun k => k = g) w6 ⟨g, 2, none⟩ _ rfl
  have e : s.burnt.wrote i b = { s.burnt with cur := putSec s.burnt.cur i (pad b), wr := s.burnt.wr + 1 } := by
    have h0 : s.burnt.old i = some lo := by rw [(burnt_cur s).2.1]; exact ho.out
    have h1 : (fun k => if k = i then some ((s.burnt.old i).getD (sec s.burnt.cur i)) else s.burnt.old k) = s.burnt.old := by
      funext k
      by_cases e : k = i
      · subst e; rw [if_pos rfl, h0]; rfl
      · rw [if_neg e]
    unfold Flash.wrote
    rw [h1]
  refine ⟨rfl, ?_, HD6.out.2.trans (K7.mono fun k _ e => .inl e)⟩
  rw [e]
  refine dev_struct HD6.out.1 _ rfl rfl HD6.out.1.fuse_in K7 (fun a0 a1 h => ?_)
  simp [World.setCell, Array.getElem?_modify, h]
end
end Go.Proofs.Ytfacinlpkblopaa
