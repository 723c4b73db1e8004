/-
  The texts FlashA, FlashB, Iter, FlashCrash, RowMore of this proof, one behind the other.
-/
import Derived.WalkKit
import Derived.OwnWalk
import Derived.WalkSpells
import Derived.WalkLawsBesides
import Derived.Test.YtledfdpabmlecaaGreatDoorRows
import Derived.Test.YtledfdpabmlecaaGreatDoorFoldA
import Derived.Test.YtledfdpabmlecaaGreatDoorFoldB
import Derived.Maps.OwnSet
import Derived.Maps.Ext
import Derived.Lib.SlKeysI
import Derived.Laws.Rows
import Derived.Laws.CopyOwn
import Derived.Outline
import Derived.Lib.Hide
import Derived.Deep.LoopGhost
import Derived.Deep.QuietTactic
import Derived.BigQuiet
import Derived.Deep.CutBlock
import Derived.Deep.DeepCutAuto
import Derived.Carry
import Derived.Deep.MidRow
import Derived.Deep.WholeRow
import Derived.StillTailTactics
import Derived.Shelf.Sort.Plain
import Derived.Shelf.Slices.In.SortNone
import Derived.Shelf.SlIterI.Nil
import Derived.Ground.GgzProg
import Derived.Test.YtledfdpabmlecaaGreatDoorProg
import Derived.Deep.SlicePairs
import Derived.Deep.Grids
section
section
namespace Go.Proofs.YtledfdpabmlecaaGreatDoor
theorem next_field (ad : Addr) (j : Nat) : ad.add (j + 1) = ⟨(ad.add j).block, (ad.add j).off + 1, none⟩ := by
  unfold Addr.add
  by_cases hj : j = 0 <;> simp [hj, Nat.add_assoc]
/-- 'min' of two integers, under a name. -/
theorem wpList_min2 {P : Program} {w : World} {ops : Array Oper} {rest : List Oper} {o : Oper} {a : Act} {Q : Exit → Act → World → Prop} (hgd : o.guard = none) (x y : Operand) (ats : Array TypeId)
    (ho : o.op = .call { callee := .builtin .min, args := #[x, y], argTypes := ats }) (k : IntKind) (p q r : Int) (hx : a.eval x = .int k p) (hy : a.eval y = .int k q) (hm : (if q < p then q else p) = r)
    (h : wpList P ops Q rest (a.put o.dst (.int k r)) w) : wpList P ops Q (o :: rest) a w := by
  refine wpList_plain hgd fun K hK' => ?_
  have hrun : (Builtin.min_ ats o.type #[.int k p, .int k q]).run P w = .ok (.int k r) w := by rw [← hm]; simp [Builtin.min_, Builtin.min2]
  unfold Oper.wp
  simp [execOp, ho, resolve, invoke, builtin, hx, hy, hrun, Result.andThen]
  exact hK' _ _ h
/-- 'make([]T, n)' behind a guard that says yes. -/
theorem make_full_want {P : Program} (w : World) {ops : Array Oper} {rest : List Oper} {o : Oper} {a : Act} {Q : Exit → Act → World → Prop}
    (hgd : Region.wanted o (yielded ops a.tmps) = true) (l c : Operand) (t : TypeId) (hop : o.op = Op.makeSlice t l c)
    (base : Nat) (e : TypeId) (i : TypeInfo) (z : Value) (size : Nat) (h1 : P.underlying t = some (.slice e)) (h2 : P.info? e = some i) (h3 : i.zero = some z) (h4 : i.size = size)
    (kl kc : IntKind) (L C : Int) (n : Nat) (hl : a.eval l = .int kl L) (hc : a.eval c = .int kc C) (hL : L = (n : Int)) (hC : C = (n : Int)) (b2 : i.bytes * n ≤ 281474976710656) (b3 : n ≤ maxLen) (b4 : base ≤ w.heap.size)
    (hK : ∀ w', w'.ownsRow base e size (.slice (some ⟨w.heap.size, 0, none⟩) n n) n (madeCells z.cells (n * size)).toList → w.grownBy w' none → wpList P ops Q rest (a.put o.dst (.slice (some ⟨w.heap.size, 0, none⟩) n n)) w') :
    wpList P ops Q (o :: rest) a w := by
  refine BigFrame.wpList_want hgd fun K hK' => ?_
  obtain ⟨w', hrun, r1, r2⟩ := run_make_full (P := P) w base t e i z size h1 h2 h3 h4 kl kc n b2 b3 b4
  subst hL
  subst hC
  unfold Oper.wp
  simp [execOp, hop, hl, hc, hrun, Result.andThen]
  exact hK' _ _ (hK w' r1 r2)
end Go.Proofs.YtledfdpabmlecaaGreatDoor
end
section
namespace Go.Proofs.YtledfdpabmlecaaGreatDoor
open Go.RowKit Go.Maps Go.ChangeMaps Go.MapKept Go.WideShapes

/-- What a device holds: the contents, the old contents of its dirty sectors, the number of Writes, the fuse, whether it is dead. -/
structure Flash where
  cur : List Nat
  old : Nat → Option (List Nat)
  wr : Nat
  fused : Bool
  fuse : Int
  dead : Bool
/-- How an entry of the map of old sectors reads: as it stands. -/
def rawElem : Value → Option (DataW Value × List MemPlace) := fun v => some (.held v, [])
def oldVal (l : List Nat) : Value := .agg (vals l).toArray
/-- The map D holds exactly the old contents of the dirty sectors among the first n. -/
structure OldIs (D : DataW Value) (n : Nat) (old : Nat → Option (List Nat)) : Prop where
  has : ∀ i : Nat, i < n → Maps.has D (.int .i64 (i : Int)) = (old i).isSome
  keys : ∀ x : Int, Maps.has D (.int .i64 x) = true → ∃ i : Nat, i < n ∧ x = (i : Int)
  at_ : ∀ (i : Nat) (l : List Nat), old i = some l → ∀ z, D.atKey (.int .i64 (i : Int)) z = .held (oldVal l)
  none : ∀ i, n ≤ i → old i = none
  len : ∀ i l, old i = some l → l.length = 64 ∧ ∀ x ∈ l, x < 256
def dirtyList (n : Nat) (old : Nat → Option (List Nat)) : List Nat := (List.range n).filter fun i => (old i).isSome
def dirtyCount (n : Nat) (old : Nat → Option (List Nat)) : Nat := (dirtyList n old).length

theorem lawI : Keyed Tryz.prog 3 := int_keyed Tryz.underlying3
theorem isKey_int (i : Int) : WideAt.IsKeyLit (.int .i64 i) := trivial
theorem keyInt (i : Nat) (h : i < 9223372036854775808) : keyOf Tryz.prog 3 (.int .i64 (i : Int)) = some (.int .i64 (i : Int)) :=
  keyOf_int_mk Tryz.underlying3 (WalkArith.wf_i64 (by omega))

/-- The blocks of a device: g the struct, c the contents, m the map. -/
def Dev (w : World) (g c m n : Nat) (s : Flash) : Prop :=
  ∃ (rest : List Value) (D : DataW Value),
    w.heap[g]? = some (.cells #[.slice (some ⟨c, 0, none⟩) (n * 64) (n * 64 + rest.length), .map (some m), .int .i64 (s.wr : Int), .bool s.fused, .int .i64 s.fuse, .bool s.dead] 100 (0, 0)) ∧
    w.heap[c]? = some (.cells (vals s.cur ++ rest).toArray 5 (0, 0)) ∧
    w.ownsMap Tryz.prog 3 rawElem m (Maps.size D) D ∧ OldIs D n s.old ∧ s.cur.length = n * 64 ∧ (∀ x ∈ s.cur, x < 256) ∧
    1 ≤ n ∧ n ≤ 1048576 ∧ n * 64 + rest.length ≤ 9223372036854775807 ∧ g ≠ c ∧ (s.fused = true → 0 ≤ s.fuse ∧ s.fuse ≤ 9223372036854775807)
/-- The blocks that a device's calls may write. -/
def devS (g c m : Nat) (k : Nat) : Prop := k = g ∨ k = c ∨ k = m
section
variable {w w' : World} {g c m n : Nat} {s : Flash}
theorem ownsMap_block {P : Program} {k : TypeId} {R : Value → Option (DataW Value × List MemPlace)} {b N : Nat} {D : DataW Value} (h : w.ownsMap P k R b N D) (hb : w'.heap[b]? = w.heap[b]?) : w'.ownsMap P k R b N D := by
  obtain ⟨es, clock, h1, F, hs, hD⟩ := h
  exact ⟨es, clock, hb.trans h1, F, hs, hD⟩
theorem ownsMap_size {P : Program} {k : TypeId} {R : Value → Option (DataW Value × List MemPlace)} {b N : Nat} {D : DataW Value} (h : w.ownsMap P k R b N D) : w.ownsMap P k R b (Maps.size D) D := by
  obtain ⟨es, clock, h1, F, hs, rfl⟩ := h
  exact ⟨es, clock, h1, F, by simp [Maps.size, length_sorted], rfl⟩
theorem Dev.block (h : Dev w g c m n s) (hg : w'.heap[g]? = w.heap[g]?) (hc : w'.heap[c]? = w.heap[c]?) (hm : w'.heap[m]? = w.heap[m]?) : Dev w' g c m n s := by
  obtain ⟨rest, D, h1, h2, h3, h4⟩ := h
  exact ⟨rest, D, hg.trans h1, hc.trans h2, ownsMap_block h3 hm, h4⟩
theorem Dev.lt (h : Dev w g c m n s) : g < w.heap.size ∧ c < w.heap.size ∧ m < w.heap.size := by
  obtain ⟨rest, D, h1, h2, h3, h4⟩ := h
  exact ⟨(Array.getElem?_eq_some_iff.1 h1).1, (Array.getElem?_eq_some_iff.1 h2).1, h3.lt⟩
theorem Dev.kept {S : Nat → Prop} (h : Dev w g c m n s) (hk : Kept S w w') (hg : ¬ S g) (hc : ¬ S c) (hm : ¬ S m) : Dev w' g c m n s :=
  h.block (hk.block g h.lt.1 hg) (hk.block c h.lt.2.1 hc) (hk.block m h.lt.2.2 hm)
theorem Dev.below {B : Nat} (h : Dev w g c m n s) (hb : Below B w w') (hg : g < B) (hc : c < B) (hm : m < B) : Dev w' g c m n s := h.block (hb.block g hg) (hb.block c hc) (hb.block m hm)
theorem Dev.drewN (h : Dev w g c m n s) (k : Nat) : Dev (w.drewN k) g c m n s := h
theorem Dev.apart (h : Dev w g c m n s) : g ≠ c ∧ g ≠ m ∧ c ≠ m := by
  obtain ⟨rest, D, h1, h2, ⟨es, clock, h3, _⟩, _, _, _, _, _, _, h4, _⟩ := h
  exact ⟨h4, (fun e => by subst e; rw [h1] at h3; cases h3), (fun e => by subst e; rw [h2] at h3; cases h3)⟩
theorem Dev.n_le (h : Dev w g c m n s) : 1 ≤ n ∧ n ≤ 1048576 := by obtain ⟨rest, D, _, _, _, _, _, _, h1, h2, _⟩ := h; exact ⟨h1, h2⟩
theorem Dev.fuse_in (h : Dev w g c m n s) : s.fused = true → 0 ≤ s.fuse ∧ s.fuse ≤ 9223372036854775807 := by obtain ⟨rest, D, _, _, _, _, _, _, _, _, _, _, h⟩ := h; exact h
theorem Dev.cur_len (h : Dev w g c m n s) : s.cur.length = n * 64 := by obtain ⟨rest, D, _, _, _, _, h, _⟩ := h; exact h
theorem Dev.cur_lt (h : Dev w g c m n s) : ∀ x ∈ s.cur, x < 256 := by obtain ⟨rest, D, _, _, _, _, _, h, _⟩ := h; exact h
end
theorem size_dirty {w : World} {N b n : Nat} {D : DataW Value} {old : Nat → Option (List Nat)} (h : w.ownsMap Tryz.prog 3 rawElem b N D) (ho : OldIs D n old) :
    ((dirtyList n old).map (fun i : Nat => (i : Int))).Perm (intKeys D) ∧ Maps.size D = dirtyCount n old := by
  have hp : ((dirtyList n old).map (fun i : Nat => (i : Int))).Perm (intKeys D) := by
    refine CollectedI.perm (left := fun _ => false) ⟨?_, fun x => ?_⟩ h lawI Tryz.underlying3 (fun _ => rfl)
    · refine List.pairwise_map.2 (List.Pairwise.imp (R := fun a b => a ≠ b) (fun {a b} hne (e : ((a : Nat) : Int) = ((b : Nat) : Int)) => hne (by omega)) ?_)
      exact List.nodup_range.filter _
    · rw [List.mem_map]
      constructor
      · rintro ⟨i, hi, rfl⟩
        rw [dirtyList, List.mem_filter, List.mem_range] at hi
        exact ⟨by rw [ho.has i hi.1]; exact hi.2, rfl⟩
      · rintro ⟨hx, _⟩
        obtain ⟨i, hi, rfl⟩ := ho.keys x hx
        refine ⟨i, ?_, rfl⟩
        rw [dirtyList, List.mem_filter, List.mem_range]
        exact ⟨hi, by rw [ho.has i hi] at hx; exact hx⟩
  refine ⟨hp, ?_⟩
  have := hp.length_eq
  rw [List.length_map] at this
  obtain ⟨es, rfl⟩ := h.isMap
  have e : Maps.size (DataW.map es) = (intKeys (DataW.map es)).length := by simp [Maps.size, intKeys]
  rw [e, ← this]; rfl
theorem dirty_le (n : Nat) (old : Nat → Option (List Nat)) : dirtyCount n old ≤ n := by
  unfold dirtyCount dirtyList
  have := List.length_filter_le (fun i => (old i).isSome) (List.range n)
  rwa [List.length_range] at this
/-- The keys, sorted. -/
theorem sorted_dirty {n : Nat} {D : DataW Value} {old : Nat → Option (List Nat)} {ss : List Int} (hp : ((dirtyList n old).map (fun i : Nat => (i : Int))).Perm (intKeys D)) (hs : ss.Perm (intKeys D)) :
    ss.mergeSort (fun x y => decide (x ≤ y)) = (dirtyList n old).map (fun i : Nat => (i : Int)) := by
  have h1 := mergeSort_of_perm_i (hs.trans hp.symm)
  have h2 : ((dirtyList n old).map (fun i : Nat => (i : Int))).mergeSort leI = (dirtyList n old).map (fun i : Nat => (i : Int)) := by
    apply List.mergeSort_of_pairwise
    refine List.pairwise_map.2 ?_
    refine List.Pairwise.imp (R := fun a b : Nat => a < b) (fun {a b} hab => by simp [leI]; omega) ?_
    exact List.pairwise_lt_range.filter _
  exact h1.trans h2
/-- 'clear' of a map. -/
theorem run_clear_own {H : Type} {P : Program} {w : World} {k e t ty : TypeId} {R : Value → Option (DataW H × List MemPlace)} {b N : Nat} {D : DataW H} (h : w.ownsMap P k R b N D) (ht : P.underlying t = some (.map k e)) :
    ∃ w', (Builtin.clear_ #[t] ty #[.map (some b)]).run P w = .ok (.tuple #[]) w' ∧ w'.ownsMap P k R b 0 (.map []) ∧ w.grownBy w' (some b) := by
  obtain ⟨es, clock, hb, F, hs, rfl⟩ := h
  refine ⟨_, by simp [Builtin.clear_, run_underlying ht, MapKept.run_getObj_map hb, MapKept.run_setObj_map _ hb, Result.andThen]; rfl, ⟨#[], clock, ?_, ⟨by simp, MapKept.stamped_empty clock, by simp⟩, Nat.le_refl _, rfl⟩, ?_⟩
  · exact heap_setBlock_same hb _
  · exact ⟨rfl, rfl, rfl, by simp, fun i _ hi => heap_setBlock_other hb _ (fun e => hi (by rw [e]))⟩
end Go.Proofs.YtledfdpabmlecaaGreatDoor
end
section
namespace Go.Proofs.YtledfdpabmlecaaGreatDoor
open Go.RowKit Go.Maps

theorem rd6 {w : World} {g : Nat} {a0 a1 a2 a3 a4 a5 : Value} {t : TypeId} (h : w.heap[g]? = some (.cells #[a0, a1, a2, a3, a4, a5] t (0, 0))) :
    (w.cell? ⟨g, 0, none⟩ = some a0 ∧ w.cell? ⟨g, 1, none⟩ = some a1 ∧ w.cell? ⟨g, 2, none⟩ = some a2 ∧ w.cell? ⟨g, 3, none⟩ = some a3 ∧ w.cell? ⟨g, 4, none⟩ = some a4 ∧ w.cell? ⟨g, 5, none⟩ = some a5) ∧
    (w.frozen? ⟨g, 0, none⟩ = false ∧ w.frozen? ⟨g, 1, none⟩ = false ∧ w.frozen? ⟨g, 2, none⟩ = false ∧ w.frozen? ⟨g, 3, none⟩ = false ∧ w.frozen? ⟨g, 4, none⟩ = false ∧ w.frozen? ⟨g, 5, none⟩ = false) := by
  refine ⟨⟨?_, ?_, ?_, ?_, ?_, ?_⟩, ⟨?_, ?_, ?_, ?_, ?_, ?_⟩⟩
  · rw [cell_of_row w g 0 _ t (0, 0) h]; rfl
  · rw [cell_of_row w g 1 _ t (0, 0) h]; rfl
  · rw [cell_of_row w g 2 _ t (0, 0) h]; rfl
  · rw [cell_of_row w g 3 _ t (0, 0) h]; rfl
  · rw [cell_of_row w g 4 _ t (0, 0) h]; rfl
  · rw [cell_of_row w g 5 _ t (0, 0) h]; rfl
  · exact frozen_of_row w g 0 _ t h
  · exact frozen_of_row w g 1 _ t h
  · exact frozen_of_row w g 2 _ t h
  · exact frozen_of_row w g 3 _ t h
  · exact frozen_of_row w g 4 _ t h
  · exact frozen_of_row w g 5 _ t h

theorem issize_yes (n : Int) (h1 : 1 ≤ n) (h2 : n ≤ 1048576) (w : World) :
    Calls Tryz.prog 25 #[.int .i64 n] w fun e w' => e = .returned (.bool true) ∧ w = w' := by
  go_enter Tryz.func25, Tryz.ntmps25
  go_wp2
  go_ret
  exact ⟨rfl, rfl⟩
theorem issize_no (n : Int) (h : n < 1 ∨ 1048576 < n) (w : World) :
    Calls Tryz.prog 25 #[.int .i64 n] w fun e w' => e = .returned (.bool false) ∧ w = w' := by
  rcases h with h | h
  · go_enter Tryz.func25, Tryz.ntmps25
    go_wp2
    go_ret
    exact ⟨rfl, rfl⟩
  · have h2 : 1 ≤ n := by omega
    have hd : decide (n ≤ 1048576) = false := by simp; omega
    go_enter Tryz.func25, Tryz.ntmps25
    go_wp2
    go_ret
    exact ⟨rfl, rfl⟩
theorem ispart_yes (n : Int) (h1 : 1 ≤ n) (h2 : n < 64) (w : World) :
    Calls Tryz.prog 86 #[.int .i64 n] w fun e w' => e = .returned (.bool true) ∧ w = w' := by
  go_enter Tryz.func86, Tryz.ntmps86
  go_wp2
  go_ret
  exact ⟨rfl, rfl⟩
theorem ispart_no (n : Int) (h : n < 1 ∨ 64 ≤ n) (w : World) :
    Calls Tryz.prog 86 #[.int .i64 n] w fun e w' => e = .returned (.bool false) ∧ w = w' := by
  rcases h with h | h
  · go_enter Tryz.func86, Tryz.ntmps86
    go_wp2
    go_ret
    exact ⟨rfl, rfl⟩
  · have h2 : 1 ≤ n := by omega
    have hd : decide (n < 64) = false := by simp; omega
    go_enter Tryz.func86, Tryz.ntmps86
    go_wp2
    go_ret
    exact ⟨rfl, rfl⟩

section
variable {g c m n : Nat} {s : Flash} {w : World}
theorem dead_any (hd : Hid (Dev w g c m n s)) :
    Calls Tryz.prog 62 #[.pointer (some ⟨g, 0, none⟩)] w fun e w' => e = .returned (.bool s.dead) ∧ w = w' := by
  obtain ⟨rest, D, hh, hc, hm, ho, hl, hb, hn1, hn2, hcap, hgc, hfu⟩ := hd.out
  obtain ⟨⟨c0, c1, c2, c3, c4, c5⟩, _⟩ := rd6 hh
  have H := Lib.hid (And.intro hh (And.intro hc (And.intro hl hm))); clear hh hc hl hm c0 c1 c2 c3 c4
  go_enter Tryz.func62, Tryz.ntmps62
  go_wp2
  go_ret
  exact ⟨rfl, rfl⟩
theorem dead_nil (w : World) :
    Calls Tryz.prog 62 #[.pointer none] w fun e w' => e = .returned (.bool true) ∧ w = w' := by
  go_enter Tryz.func62, Tryz.ntmps62
  go_wp2
  go_ret
  exact ⟨rfl, rfl⟩
theorem sectors_any (hd : Hid (Dev w g c m n s)) :
    Calls Tryz.prog 95 #[.pointer (some ⟨g, 0, none⟩)] w fun e w' => e = .returned (.int .i64 (n : Int)) ∧ w = w' := by
  obtain ⟨rest, D, hh, hc, hm, ho, hl, hb, hn1, hn2, hcap, hgc, hfu⟩ := hd.out
  obtain ⟨⟨c0, c1, c2, c3, c4, c5⟩, _⟩ := rd6 hh
  have H := Lib.hid (And.intro hh (And.intro hc (And.intro hl hm))); clear hh hc hl hm c1 c2 c3 c4 c5
  go_enter Tryz.func95, Tryz.ntmps95
  go_wp2
  go_ret
  exact ⟨ret_int (by omega), rfl⟩
theorem sectors_nil (w : World) :
    Calls Tryz.prog 95 #[.pointer none] w fun e w' => e = .returned (.int .i64 0) ∧ w = w' := by
  go_enter Tryz.func95, Tryz.ntmps95
  go_wp2
  go_ret
  exact ⟨rfl, rfl⟩
end
end Go.Proofs.YtledfdpabmlecaaGreatDoor
end
section
namespace Go.Proofs.YtledfdpabmlecaaGreatDoor
open Go.RowKit Go.Maps

def Flash.fresh (l : List Nat) : Flash := ⟨l, fun _ => none, 0, false, 0, false⟩
/-- What a call leaves that makes a device of the bytes l. -/
def MadeDev (w : World) (n : Nat) (l : List Nat) (e : Ending) (w' : World) : Prop :=
  ∃ g c m, e = .returned (.pointer (some ⟨g, 0, none⟩)) ∧ Dev w' g c m n (Flash.fresh l) ∧ w.heap.size ≤ g ∧ w.heap.size ≤ c ∧ w.heap.size ≤ m ∧ Below w.heap.size w w'
theorem old_empty (n : Nat) : OldIs (.map []) n (fun _ => none) :=
  ⟨fun _ _ => rfl, (fun _ h => by cases h), (fun _ _ h => by cases h), fun _ _ => rfl, (fun _ _ h => by cases h)⟩
/-- What 'holding' leaves: the blocks behind those that were. -/
def Held (w : World) (c n : Nat) (l : List Nat) (e : Ending) (w' : World) : Prop :=
  ∃ g m, e = .returned (.pointer (some ⟨g, 0, none⟩)) ∧ Dev w' g c m n (Flash.fresh l) ∧ w.heap.size ≤ g ∧ w.heap.size ≤ m ∧ Below w.heap.size w w'
theorem holding_any (c n cap : Nat) (l : List Nat) (rest : List Value) (w : World) (hc : Hid (w.heap[c]? = some (.cells (vals l ++ rest).toArray 5 (0, 0)))) (hcap : Hid (cap = n * 64 + rest.length)) (hl : Hid (l.length = n * 64)) (hb : Hid (∀ x ∈ l, x < 256)) (hn1 : 1 ≤ n) (hn2 : n ≤ 1048576) (hm : Hid (n * 64 + rest.length ≤ 9223372036854775807)) :
    Calls Tryz.prog 26 #[.slice (some ⟨c, 0, none⟩) (n * 64) cap] w (Held w c n l) := by
  have hmm := @run_makeMap Tryz.prog
  have hlt : c < w.heap.size := (Array.getElem?_eq_some_iff.1 hc.out).1
  go_enter Tryz.func26, Tryz.ntmps26
  go_wp2
  go_ret
  refine ⟨w.heap.size + 1, w.heap.size, ?_, ?_, by omega, by omega, ((Below.refl _ w).alloc (Nat.le_refl _) _).alloc (by simp) _⟩
  · simp
  · refine ⟨rest, .map [], ?_, ?_, ?_, old_empty n, hl.out, hb.out, hn1, hn2, hm.out, by omega, fun h => by cases h⟩
    · rw [← hcap.out]
      exact heap_alloc2_new _ _ _
    · exact ((((Below.refl _ w).alloc (Nat.le_refl _) _).alloc (by simp) _ : Below w.heap.size w _).block c hlt).trans hc.out
    · exact (World.ownsMap_made w Tryz.prog 3 rawElem).alloc _
/-- A row of the call's own, as the block of a device's contents. -/
theorem own_block {w : World} {base : Nat} {v : Value} {k : Nat} {l : List Nat} (h : w.ownsRow base 5 1 v k (vals l)) (hk : 0 < k) :
    ∃ c rest, v = .slice (some ⟨c, 0, none⟩) k (k + rest.length) ∧ base ≤ c ∧ w.heap[c]? = some (.cells (vals l ++ rest).toArray 5 (0, 0)) ∧ l.length = k ∧ k + rest.length ≤ maxLen := by
  have hl : l.length = k := by have := h.1; rw [vals_length] at this; omega
  rcases h.2 with ⟨_, h0⟩ | ⟨g, cap, cur, rfl, hb, hg, hnc, hcm, hsz, htk⟩
  · omega
  · have e : cur.toList = vals l ++ cur.toList.drop k := by rw [← htk, Nat.mul_one, List.take_append_drop]
    have hlen : k + (cur.toList.drop k).length = cap := by rw [List.length_drop, Array.length_toList]; omega
    refine ⟨g, cur.toList.drop k, by rw [hlen], hb, ?_, hl, by rw [hlen]; exact hcm⟩
    rw [hg, ← e]
theorem vals_zero (k : Nat) : (madeCells (Value.cells (.int .u8 0)) (k * 1)).toList = vals (List.replicate k 0) := by
  simp only [madeCells, vals, Value.cells, List.map_replicate]
  apply List.ext_getElem
  · simp
  · intro i h1 h2
    simp [Nat.mod_one]
set_option maxHeartbeats 400000 in
theorem new_yes (n : Nat) (ni : Int) (hni : ni = (n : Int)) (w : World) (h1 : 1 ≤ n) (h2 : n ≤ 1048576) :
    Calls Tryz.prog 15 #[.int .i64 ni] w (MadeDev w n (List.replicate (n * 64) 0)) := by
  subst hni
  obtain ⟨i0, hi0, hz0, hz1, hz2⟩ := info_parts info_u8
  have I0 := Lib.hid (And.intro hi0 (And.intro hz0 (And.intro hz1 hz2))); clear hi0 hz0 hz1 hz2
  have B0 : Hid (i0.bytes * (n * 64) ≤ 281474976710656 ∧ n * 64 ≤ maxLen) := by rw [I0.out.2.2.2]; exact ⟨by omega, by unfold maxLen; omega⟩
  go_enter Tryz.func15, Tryz.ntmps15
  go_wp2_with (first
    | (go_at_call 25; refine (issize_yes _ (by omega) (by omega) _).mono ?_; rintro e w' ⟨rfl, rfl⟩)
    | (at_make; refine wpList_make_full w rfl _ _ 27 rfl w.heap.size 5 i0 (.int .u8 0) 1 Tryz.underlying27 I0.out.1 I0.out.2.1 I0.out.2.2.1 .i64 .i64 _ _ (n * 64) rfl rfl (by simp) (by simp) B0.out.1 B0.out.2 (Nat.le_refl _) ?_; intro w1 hown hg))
  have hown1 : w1.ownsRow w.heap.size 5 1 (.slice (some ⟨w.heap.size, 0, none⟩) (n * 64) (n * 64)) (n * 64) (vals (List.replicate (n * 64) 0)) := by
    rw [← vals_zero]; exact hown
  obtain ⟨c, rest, hv, hb, hc, hl, hm⟩ := own_block hown1 (by omega)
  injection hv with e1 e2 e3
  injection e1 with e1
  injection e1 with e1
  subst e1
  have HC := Lib.hid hc
  have HCap : Hid (n * 64 = n * 64 + rest.length) := e3
  have HL := Lib.hid hl
  have HM : Hid (n * 64 + rest.length ≤ 9223372036854775807) := hm
  have HZ : Hid (∀ x ∈ List.replicate (n * 64) 0, x < 256) := fun x hx => by rw [(List.mem_replicate.1 hx).2]; decide
  have HB : Hid (Below w.heap.size w w1) := (Below.refl _ w).grown hg (Nat.le_refl _) (fun k e => by cases e)
  clear hc e3 hl hm hown hown1 e2
  go_wp2_with (go_at_call 26; refine (holding_any _ n _ _ rest _ HC HCap HL HZ h1 h2 HM).mono ?_; rintro e w2 ⟨g, m, rfl, hd, hg1, hm1, hb2⟩)
  go_ret
  have hs := HB.out.size
  exact ⟨g, _, m, rfl, hd, by omega, Nat.le_refl _, by omega, HB.out.trans (hb2.mono hs)⟩
theorem new_no (n : Int) (w : World) (h : n < 1 ∨ 1048576 < n) :
    Calls Tryz.prog 15 #[.int .i64 n] w fun e w' => e = .returned (.pointer none) ∧ w = w' := by
  go_enter Tryz.func15, Tryz.ntmps15
  go_wp2_with (go_at_call 25; refine (issize_no _ h _).mono ?_; rintro e w' ⟨rfl, rfl⟩)
  go_ret
  exact ⟨rfl, rfl⟩
theorem load_yes (A : Option Addr) (B n c : Nat) (l : List Nat) (w : World) (hA : A = none → c = 0 ∧ n * 64 = 0) (hl : Hid (l.length = n * 64)) (hn1 : 1 ≤ n) (hn2 : n ≤ 1048576) (hb : Hid (Bs w B A l)) :
    Calls Tryz.prog 7 #[.slice A (n * 64) c] w (MadeDev w n l) := by
  have hr : ((n * 64 : Nat) : Int) % 64 = 0 := by omega
  have hr2 : ((n : Int) * 64) % 64 = 0 := by omega
  have hq : ((n : Int) * 64) / 64 = (n : Int) := by omega
  go_enter Tryz.func7, Tryz.ntmps7
  go_wp2_with (first
    | (go_at_call 25; refine (issize_yes _ (by omega) (by omega) _).mono ?_; rintro e w' ⟨rfl, rfl⟩)
    | (go_at_call 27; refine (clone_any A B _ _ l _ (fun e => ⟨(hA e).1, (hA e).2⟩) hl (by omega) hb).mono ?_; rintro e w1 ⟨v, rfl, hown, hb1⟩))
  obtain ⟨c1, rest, rfl, hb0, hc, hl1, hm⟩ := own_block hown (by omega)
  have HC := Lib.hid hc
  have HL := Lib.hid hl1
  have HM : Hid (n * 64 + rest.length ≤ 9223372036854775807) := hm
  have HZ : Hid (∀ x ∈ l, x < 256) := hb.out.lt
  have HB := Lib.hid hb1
  have HCap : Hid (n * 64 + rest.length = n * 64 + rest.length) := rfl
  clear hc hl1 hm hown hb1
  go_wp2_with (go_at_call 26; refine (holding_any _ n _ _ rest _ HC HCap HL HZ hn1 hn2 HM).mono ?_; rintro e w2 ⟨g, m, rfl, hd, hg1, hm1, hb2⟩)
  go_ret
  have hs := HB.out.size
  exact ⟨g, _, m, rfl, hd, by omega, hb0, by omega, HB.out.trans (hb2.mono hs)⟩
theorem load_no (A : Option Addr) (n c : Nat) (w : World) (h : n % 64 ≠ 0 ∨ n < 64 ∨ 67108864 < n) (hn : n ≤ 9223372036854775807) :
    Calls Tryz.prog 7 #[.slice A n c] w fun e w' => e = .returned (.pointer none) ∧ w = w' := by
  by_cases h0 : n % 64 = 0
  · have hs : ((n : Int) / 64) < 1 ∨ 1048576 < ((n : Int) / 64) := by omega
    have hq : ((n : Int) % 64 != 0) = false := by simp; omega
    have H0 := Lib.hid h0; clear h0
    clear h
    go_enter Tryz.func7, Tryz.ntmps7
    go_wp2_with (go_at_call 25; refine (issize_no _ hs _).mono ?_; rintro e w' ⟨rfl, rfl⟩)
    go_ret
    exact ⟨rfl, rfl⟩
  · have hq : ((n : Int) % 64 != 0) = true := by rw [bne_iff_ne]; omega
    have H0 := Lib.hid h0; clear h0
    clear h
    go_enter Tryz.func7, Tryz.ntmps7
    go_wp2
    go_ret
    exact ⟨rfl, rfl⟩
/-- What a call leaves that returns bytes in a row of its own. -/
def GaveRow (w : World) (l : List Nat) (e : Ending) (w' : World) : Prop :=
  ∃ (g cap : Nat), e = .returned (.slice (some ⟨g, 0, none⟩) l.length cap) ∧ w.heap.size ≤ g ∧ Bs w' w'.heap.size (some ⟨g, 0, none⟩) l ∧ l.length ≤ cap ∧ cap ≤ maxLen ∧ Below w.heap.size w w' ∧ w'.ownsRow w.heap.size 5 1 (.slice (some ⟨g, 0, none⟩) l.length cap) l.length (vals l)
section
variable {g c m n : Nat} {s : Flash} {w : World}
theorem Dev.bytes (h : Dev w g c m n s) : Bs w w.heap.size (some ⟨c, 0, none⟩) s.cur := by
  obtain ⟨rest, D, hh, hc, hm, ho, hl, hb, hn1, hn2, hcap, hgc, hfu⟩ := h
  intro k hk
  have hx : s.cur[k] = s.cur.getD k 0 := by rw [List.getD_eq_getElem?_getD, List.getElem?_eq_getElem hk]; rfl
  refine ⟨by rw [← hx]; exact hb _ (List.getElem_mem hk), _, rfl, (Array.getElem?_eq_some_iff.1 hc).1, ?_⟩
  have e : (⟨c, 0, none⟩ : Addr).add k = ⟨c, k, none⟩ := by unfold Addr.add; split <;> simp_all
  rw [e, cell_of_row w c k _ _ _ hc]
  have hv := vals_at hk
  rw [List.getElem?_toArray, List.getElem?_append_left (by rw [vals_length]; exact hk)]
  exact hv
/-- The struct written, field by field. -/
theorem dev_struct {w' : World} (h : Dev w g c m n s) (s' : Flash) (hcur : s'.cur = s.cur) (hold : s'.old = s.old) (hfu' : s'.fused = true → 0 ≤ s'.fuse ∧ s'.fuse ≤ 9223372036854775807)
    (hk : Kept (fun k => k = g) w w')
    (hg : ∀ a0 a1, w.heap[g]? = some (.cells #[a0, a1, .int .i64 (s.wr : Int), .bool s.fused, .int .i64 s.fuse, .bool s.dead] 100 (0, 0)) → w'.heap[g]? = some (.cells #[a0, a1, .int .i64 (s'.wr : Int), .bool s'.fused, .int .i64 s'.fuse, .bool s'.dead] 100 (0, 0))) : Dev w' g c m n s' := by
  obtain ⟨h1, h2, h3⟩ := h.apart
  obtain ⟨l1, l2, l3⟩ := h.lt
  obtain ⟨rest, D, hh, hc, hm, ho, hl, hb, hn1, hn2, hcap, hgc, hfu⟩ := h
  refine ⟨rest, D, hg _ _ hh, ?_, ownsMap_block hm (hk.block m l3 (fun e => h2 e.symm)), by rw [hold]; exact ho, by rw [hcur]; exact hl, by rw [hcur]; exact hb, hn1, hn2, hcap, hgc, hfu'⟩
  rw [hcur]
  exact (hk.block c l2 (fun e => h1 e.symm)).trans hc
def Flash.setFuse (s : Flash) (k : Int) : Flash := { s with fused := decide (0 ≤ k), fuse := k }
/-- Does the power last for one more call? -/
def Flash.lasts (s : Flash) : Bool := !s.fused || s.fuse != 0
def Flash.burnt (s : Flash) : Flash := if s.fused = true then (if s.fuse = 0 then { s with dead := true } else { s with fuse := s.fuse - 1 }) else s
theorem burn_any (hd : Hid (Dev w g c m n s)) :
    Calls Tryz.prog 82 #[.pointer (some ⟨g, 0, none⟩)] w fun e w' => e = .returned (.bool s.lasts) ∧ Dev w' g c m n s.burnt ∧ Kept (fun k => k = g) w w' := by
  obtain ⟨rest, D, hh, hc, hm, ho, hl, hb, hn1, hn2, hcap, hgc, hfu⟩ := hd.out
  obtain ⟨⟨c0, c1, c2, c3, c4, c5⟩, f0, f1, f2, f3, f4, f5⟩ := rd6 hh
  have H := Lib.hid (And.intro hh (And.intro hc (And.intro hl hm))); clear hh hc hl hm c0 c1 c2 f0 f1 f2 f3
  by_cases hf : s.fused = true
  · obtain ⟨b1, b2⟩ := hfu hf
    clear hfu
    rw [hf] at c3
    by_cases h0 : s.fuse = 0
    · rw [h0] at c4
      have HF := Lib.hid (And.intro hf h0); clear hf h0
      go_enter Tryz.func82, Tryz.ntmps82
      go_wp2
      go_ret
      have K : Kept (fun k => k = g) w (w.setCell ⟨g, 5, none⟩ (.bool true)) := Kept.setCell (S := fun k => k = g) w ⟨g, 5, none⟩ _ rfl
      have e : s.burnt = { s with dead := true } := by rw [Flash.burnt, if_pos HF.out.1, if_pos HF.out.2]
      refine ⟨by simp [Flash.lasts, HF.out.1, HF.out.2], ?_, K⟩
      rw [e]
      refine dev_struct hd.out _ rfl rfl (fun _ => ⟨b1, b2⟩) K (fun a0 a1 h => ?_)
      simp [World.setCell, Array.getElem?_modify, h]
    · have h1 : (s.fuse == 0) = false := by simpa using h0
      have b3 : 1 ≤ s.fuse := by omega
      have HF := Lib.hid (And.intro hf h0); clear hf h0
      go_enter Tryz.func82, Tryz.ntmps82
      go_wp2
      go_ret
      have K : Kept (fun k => k = g) w (w.setCell ⟨g, 4, none⟩ (.int .i64 (s.fuse - 1))) := Kept.setCell (S := fun k => k = g) w ⟨g, 4, none⟩ _ rfl
      have e : s.burnt = { s with fuse := s.fuse - 1 } := by rw [Flash.burnt, if_pos HF.out.1, if_neg HF.out.2]
      refine ⟨by simp [Flash.lasts, HF.out.1, HF.out.2], ?_, K⟩
      rw [e]
      refine dev_struct hd.out _ rfl rfl (fun _ => ⟨by show 0 ≤ s.fuse - 1; omega, by show s.fuse - 1 ≤ _; omega⟩) K (fun a0 a1 h => ?_)
      simp [World.setCell, Array.getElem?_modify, h]
  · have hf' : s.fused = false := by simpa using hf
    rw [hf'] at c3
    clear hfu
    have HF := Lib.hid hf; clear hf
    have HF' := Lib.hid hf'; clear hf'
    go_enter Tryz.func82, Tryz.ntmps82
    go_wp2
    go_ret
    have e : s.burnt = s := by rw [Flash.burnt, if_neg HF.out]
    refine ⟨by simp [Flash.lasts, HF'.out], by rw [e]; exact hd.out, Kept.refl _ _⟩
theorem has_any (i : Int) (hd : Hid (Dev w g c m n s)) :
    Calls Tryz.prog 63 #[.pointer (some ⟨g, 0, none⟩), .int .i64 i] w fun e w' => e = .returned (.bool (decide (0 ≤ i ∧ i < (n : Int)))) ∧ w = w' := by
  by_cases h0 : 0 ≤ i
  · by_cases h1 : i < (n : Int)
    · go_enter Tryz.func63, Tryz.ntmps63
      go_wp2_with (go_at_call 95; refine (sectors_any hd).mono ?_; rintro e w' ⟨rfl, rfl⟩)
      go_ret
      exact ⟨by simp [h0, h1], rfl⟩
    · have h2 : decide (i < (n : Int)) = false := by simpa using h1
      go_enter Tryz.func63, Tryz.ntmps63
      go_wp2_with (go_at_call 95; refine (sectors_any hd).mono ?_; rintro e w' ⟨rfl, rfl⟩)
      go_ret
      exact ⟨by simp [h1], rfl⟩
  · have h2 : decide (0 ≤ i) = false := by simpa using h0
    go_enter Tryz.func63, Tryz.ntmps63
    go_wp2
    go_ret
    exact ⟨rfl, rfl⟩
end
end Go.Proofs.YtledfdpabmlecaaGreatDoor
end
section
namespace Go.Proofs.YtledfdpabmlecaaGreatDoor
open Go.RowKit Go.Maps
section
variable {g c m n : Nat} {s : Flash} {w : World}
/-- A sector's bytes, in the device's own memory. -/
def GaveSector (w : World) (c i : Nat) (e : Ending) (w' : World) : Prop :=
  ∃ cap : Nat, e = .returned (.slice (some ⟨c, i * 64, none⟩) 64 cap) ∧ 64 ≤ cap ∧ cap ≤ 9223372036854775807 ∧ w = w'
theorem sector_any (i : Nat) (ii : Int) (hii : ii = (i : Int)) (hi : i < n) (hd : Hid (Dev w g c m n s)) :
    Calls Tryz.prog 52 #[.pointer (some ⟨g, 0, none⟩), .int .i64 ii] w (GaveSector w c i) := by
  subst hii
  obtain ⟨rest, D, hh, hc, hm, ho, hl, hb, hn1, hn2, hcap, hgc, hfu⟩ := hd.out
  obtain ⟨⟨c0, c1, c2, c3, c4, c5⟩, _⟩ := rd6 hh
  have H := Lib.hid (And.intro hh (And.intro hc (And.intro hl hm))); clear hh hc hl hm c1 c2 c3 c4 c5
  have hcn : ¬ (n * 64 + rest.length = i * 64) := by omega
  go_enter Tryz.func52, Tryz.ntmps52
  go_wp2
  go_ret
  refine ⟨n * 64 + rest.length - i * 64, ?_, by omega, by omega, rfl⟩
  exact congrArg (fun k => Ending.returned (.slice (some ⟨c, i * 64, none⟩) k (n * 64 + rest.length - i * 64))) (by omega)
/-- The bytes of a sector. -/
def sec (l : List Nat) (i : Nat) : List Nat := (l.drop (i * 64)).take 64
theorem sec_len {l : List Nat} {n i : Nat} (hl : l.length = n * 64) (hi : i < n) : (sec l i).length = 64 := by
  unfold sec; rw [List.length_take, List.length_drop]; omega
theorem sec_get {l : List Nat} {i k : Nat} (hk : k < 64) : (sec l i).getD k 0 = l.getD (i * 64 + k) 0 := by
  unfold sec
  rw [List.getD_eq_getElem?_getD, List.getD_eq_getElem?_getD, List.getElem?_take_of_lt hk, List.getElem?_drop]
theorem add_flat (c o k : Nat) : (⟨c, o, none⟩ : Addr).add k = ⟨c, o + k, none⟩ := by unfold Addr.add; split <;> simp_all
theorem Dev.sec (h : Dev w g c m n s) {i : Nat} (hi : i < n) : Bs w w.heap.size (some ⟨c, i * 64, none⟩) (sec s.cur i) := by
  intro k hk
  rw [sec_len h.cur_len hi] at hk
  obtain ⟨h1, ad, e, h3, h4⟩ := h.bytes (i * 64 + k) (by rw [h.cur_len]; omega)
  injection e with e
  subst e
  rw [sec_get hk]
  refine ⟨h1, _, rfl, h3, ?_⟩
  rw [add_flat, Nat.zero_add] at h4
  rw [add_flat]
  exact h4
/-- What a Read leaves that returns a sector's bytes. -/
def ReadOk (w : World) (l : List Nat) (e : Ending) (w' : World) : Prop :=
  ∃ (g cap : Nat), e = .returned (.tuple #[.slice (some ⟨g, 0, none⟩) 64 cap, .int .i64 0]) ∧ w.heap.size ≤ g ∧ l.length = 64 ∧ Bs w' w'.heap.size (some ⟨g, 0, none⟩) l ∧ 64 ≤ cap ∧ cap ≤ maxLen ∧ Below w.heap.size w w'
theorem read_ok (i : Nat) (ii : Int) (hii : ii = (i : Int)) (hi : i < n) (hd : Hid (Dev w g c m n s)) (hdead : Hid (s.dead = false)) :
    Calls Tryz.prog 29 #[.pointer (some ⟨g, 0, none⟩), .int .i64 ii] w (ReadOk w (sec s.cur i)) := by
  subst hii
  have HL : Hid ((sec s.cur i).length = 64) := sec_len hd.out.cur_len hi
  have HS : Hid (Bs w w.heap.size (some ⟨c, i * 64, none⟩) (sec s.cur i)) := hd.out.sec hi
  have hz : decide (0 ≤ (i : Int) ∧ (i : Int) < (n : Int)) = true := by simp; omega
  go_enter Tryz.func29, Tryz.ntmps29
  go_wp2_with (first
    | (go_at_call 62; refine (dead_any hd).mono ?_; rw [hdead.out]; rintro e w' ⟨rfl, rfl⟩)
    | (go_at_call 63; refine (has_any _ hd).mono ?_; rw [hz]; rintro e w' ⟨rfl, rfl⟩)
    | (go_at_call 52; refine (sector_any i _ rfl hi hd).mono ?_; rintro e w' ⟨cap, rfl, hc1, hc2, rfl⟩)
    | (go_at_call 27; refine (clone_any _ _ _ _ _ _ (fun e => by cases e) HL (by omega) HS).mono ?_; rintro e w' ⟨v, rfl, hown, hbl⟩))
  obtain ⟨A1, cap1, rfl, hbs, hlen, hnc, hcm, hA1⟩ := own_bytes hown HS.out.lt
  go_ret2
  rcases hA1 with ⟨_, h0, _⟩ | ⟨g1, rfl, hg1, hg2⟩
  · omega
  · exact ⟨g1, cap1, rfl, hg1, HL.out, hbs, hnc, hcm, hbl⟩
/-- What a Read leaves that fails. -/
def ReadNo (w : World) (k : Int) (e : Ending) (w' : World) : Prop := e = .returned (.tuple #[.slice none 0 0, .int .i64 k]) ∧ w = w'
theorem read_dead (i : Int) (hd : Hid (Dev w g c m n s)) (hdead : Hid (s.dead = true)) :
    Calls Tryz.prog 29 #[.pointer (some ⟨g, 0, none⟩), .int .i64 i] w (ReadNo w 1) := by
  go_enter Tryz.func29, Tryz.ntmps29
  go_wp2_with (go_at_call 62; refine (dead_any hd).mono ?_; rw [hdead.out]; rintro e w' ⟨rfl, rfl⟩)
  go_ret2
  exact ⟨rfl, rfl⟩
theorem read_range (i : Int) (hi : i < 0 ∨ (n : Int) ≤ i) (hd : Hid (Dev w g c m n s)) (hdead : Hid (s.dead = false)) :
    Calls Tryz.prog 29 #[.pointer (some ⟨g, 0, none⟩), .int .i64 i] w (ReadNo w 2) := by
  have hz : decide (0 ≤ i ∧ i < (n : Int)) = false := by simp; omega
  clear hi
  go_enter Tryz.func29, Tryz.ntmps29
  go_wp2_with (first
    | (go_at_call 62; refine (dead_any hd).mono ?_; rw [hdead.out]; rintro e w' ⟨rfl, rfl⟩)
    | (go_at_call 63; refine (has_any _ hd).mono ?_; rw [hz]; rintro e w' ⟨rfl, rfl⟩))
  go_ret2
  exact ⟨rfl, rfl⟩
theorem read_nil (i : Int) (w : World) :
    Calls Tryz.prog 29 #[.pointer none, .int .i64 i] w (ReadNo w 1) := by
  go_enter Tryz.func29, Tryz.ntmps29
  go_wp2_with (go_at_call 62; refine (dead_nil _).mono ?_; rintro e w' ⟨rfl, rfl⟩)
  go_ret2
  exact ⟨rfl, rfl⟩

/-! ### Barrier -/
def Flash.barrier (s : Flash) : Flash := if s.dead = true then s else if s.lasts = true then { s.burnt with old := fun _ => none } else s.burnt
def Flash.barrierErr (s : Flash) : Int := if s.dead = true then 1 else if s.lasts = true then 0 else 1
theorem burnt_cur (s : Flash) : s.burnt.cur = s.cur ∧ s.burnt.old = s.old ∧ s.burnt.wr = s.wr := by
  unfold Flash.burnt
  split
  · split <;> exact ⟨rfl, rfl, rfl⟩
  · exact ⟨rfl, rfl, rfl⟩
def BarrierDid (w : World) (g c m n : Nat) (s : Flash) (k : Int) (e : Ending) (w' : World) : Prop := e = .returned (.int .i64 k) ∧ Dev w' g c m n s ∧ Kept (fun k => k = g ∨ k = m) w w'
/-- 'clear' of the map of old sectors, at the operation. -/
theorem wpList_clear_own {H : Type} {P : Program} {ops : Array Oper} {rest : List Oper} {o : Oper} {a : Act} {w : World} {Q : Exit → Act → World → Prop} (hgd : o.guard = none) (x : Operand) (t : TypeId)
    (ho : o.op = .call { callee := .builtin .clear, args := #[x], argTypes := #[t] }) (k e : TypeId) (ht : P.underlying t = some (.map k e)) {R : Value → Option (DataW H × List MemPlace)} {b N : Nat} {D : DataW H} (hx : a.eval x = .map (some b)) (h : w.ownsMap P k R b N D)
    (hK : ∀ w', w'.ownsMap P k R b 0 (.map []) → w.grownBy w' (some b) → wpList P ops Q rest (a.put o.dst (.tuple #[])) w') : wpList P ops Q (o :: rest) a w := by
  refine wpList_plain hgd fun K hK' => ?_
  obtain ⟨w', hrun, h1, h2⟩ := run_clear_own (ty := o.type) h ht
  unfold Oper.wp
  simp [execOp, ho, resolve, invoke, builtin, hx, hrun, Result.andThen]
  exact hK' _ _ (hK w' h1 h2)
theorem barrier_any (hd : Hid (Dev w g c m n s)) :
    Calls Tryz.prog 48 #[.pointer (some ⟨g, 0, none⟩)] w (BarrierDid w g c m n s.barrier s.barrierErr) := by
  by_cases h0 : s.dead = true
  · have e1 : s.barrier = s := by rw [Flash.barrier, if_pos h0]
    have e2 : s.barrierErr = 1 := by rw [Flash.barrierErr, if_pos h0]
    rw [e1, e2]
    have H0 := Lib.hid h0; clear h0 e1 e2
    go_enter Tryz.func48, Tryz.ntmps48
    go_wp2_with (go_at_call 62; refine (dead_any hd).mono ?_; rw [H0.out]; rintro e w' ⟨rfl, rfl⟩)
    go_ret
    exact ⟨rfl, hd.out, Kept.refl _ _⟩
  · have h0' : s.dead = false := by simpa using h0
    by_cases h1 : s.lasts = true
    · have e1 : s.barrier = { s.burnt with old := fun _ => none } := by rw [Flash.barrier, if_neg h0, if_pos h1]
      have e2 : s.barrierErr = 0 := by rw [Flash.barrierErr, if_neg h0, if_pos h1]
      rw [e1, e2]
      have H0 := Lib.hid h0'; clear h0 h0' e1 e2
      have H1 := Lib.hid h1; clear h1
      go_enter Tryz.func48, Tryz.ntmps48
      go_wp2_with (first
        | (go_at_call 62; refine (dead_any hd).mono ?_; rw [H0.out]; rintro e w' ⟨rfl, rfl⟩)
        | (go_at_call 82; refine (burn_any hd).mono ?_; rw [H1.out]; rintro e w1 ⟨rfl, hd1, hk1⟩; have HD := Lib.hid hd1; have HK := Lib.hid hk1; obtain ⟨rest, D, hh, hc, hm, hrest⟩ := hd1; obtain ⟨⟨_, c1, _⟩, _⟩ := rd6 hh; have HM := Lib.hid (And.intro hh (And.intro hc (And.intro hm hrest))); clear hh hc hm hrest hk1)
        | (with_reducible refine wpList_clear_own rfl (.tmp 13) 98 rfl _ _ Tryz.underlying98 rfl HM.out.2.2.1 ?_; intro w2 hown hg2))
      go_ret
      obtain ⟨hh, hc, hm, ho, hl, hb, hn1, hn2, hcap, hgc, hfu⟩ := HM.out
      obtain ⟨a1, a2, a3⟩ := HD.out.apart
      obtain ⟨l1, l2, l3⟩ := HD.out.lt
      have K2 : Kept (fun k => k = m) w1 w2 := Kept.of_grown hg2 (fun k e => by injection e with e; exact e.symm)
      refine ⟨rfl, ⟨rest, .map [], ?_, ?_, hown, old_empty n, hl, hb, hn1, hn2, hcap, hgc, hfu⟩, (HK.out.mono fun k _ e => .inl e).trans (K2.mono fun k _ e => .inr e)⟩
      · exact (K2.block g l1 a2).trans hh
      · exact (K2.block c l2 a3).trans hc
    · have h1' : s.lasts = false := by simpa using h1
      have e1 : s.barrier = s.burnt := by rw [Flash.barrier, if_neg h0, if_neg h1]
      have e2 : s.barrierErr = 1 := by rw [Flash.barrierErr, if_neg h0, if_neg h1]
      rw [e1, e2]
      have H0 := Lib.hid h0'; clear h0 h0' e1 e2 h1
      have H1 := Lib.hid h1'; clear h1'
      go_enter Tryz.func48, Tryz.ntmps48
      go_wp2_with (first
        | (go_at_call 62; refine (dead_any hd).mono ?_; rw [H0.out]; rintro e w' ⟨rfl, rfl⟩)
        | (go_at_call 82; refine (burn_any hd).mono ?_; rw [H1.out]; rintro e w1 ⟨rfl, hd1, hk1⟩))
      go_ret
      exact ⟨rfl, hd1, hk1.mono fun k _ e => .inl e⟩
theorem barrier_nil (w : World) :
    Calls Tryz.prog 48 #[.pointer none] w fun e w' => e = .returned (.int .i64 1) ∧ w = w' := by
  go_enter Tryz.func48, Tryz.ntmps48
  go_wp2_with (go_at_call 62; refine (dead_nil _).mono ?_; rintro e w' ⟨rfl, rfl⟩)
  go_ret
  exact ⟨rfl, rfl⟩
end
end Go.Proofs.YtledfdpabmlecaaGreatDoor
end
section
set_option maxRecDepth 100000
namespace Go.Proofs.YtledfdpabmlecaaGreatDoor
open Go.RowKit Go.Maps

/-! ### two laws on rows -/
theorem splice_nil {α : Type} (L : List α) (o : Nat) : splice L o [] = L := by simp [splice]
/-- 'copy' into a row, whatever the source. -/
theorem wpList_copy_into {P : Program} {w : World} {ops : Array Oper} {rest : List Oper} {o : Oper} {a : Act} {Q : Exit → Act → World → Prop} (hgd : o.guard = none) (d s : Operand) (dT sT : TypeId)
    (ho : o.op = .call { callee := .builtin .copy, args := #[d, s], argTypes := #[dT, sT] }) (elem : TypeId) (hu : P.underlying dT = some (.slice elem)) (hsz : (P.info? elem).map (·.size) = some 1)
    (dp sp : Option Addr) (dLen dCap sLen sCap : Nat) (hd : a.eval d = .slice dp dLen dCap) (hs : a.eval s = .slice sp sLen sCap)
    (g off : Nat) (cur : List Value) (t : TypeId) (hg : w.heap[g]? = some (.cells cur.toArray t (0, 0))) (cs : List Value) (hn : cs.length = Nat.min sLen dLen)
    (hpos : 0 < cs.length → dp = some ⟨g, off, none⟩ ∧ ∃ ad, sp = some ad ∧ ∀ j v, cs[j]? = some v → w.cell? (ad.add j) = some v)
    (hfit : off + cs.length ≤ cur.length) (h1 : ∀ v ∈ cs, v.oneCell' = true)
    (k : Nat) (hk : cs.length = k)
    (h : ∀ w', w'.heap[g]? = some (.cells (splice cur off cs).toArray t (0, 0)) → Kept (fun k => k = g) w w' → wpList P ops Q rest (a.put o.dst (.int .i64 (k : Int))) w') :
    wpList P ops Q (o :: rest) a w := by
  subst hk
  by_cases h0 : cs.length = 0
  · obtain rfl : cs = [] := List.eq_nil_of_length_eq_zero h0
    refine wpList_copy_nothing hgd d s dT sT ho elem hu hsz dp sp dLen dCap sLen sCap hd hs (by simpa using hn.symm) ?_
    exact h w (by rw [splice_nil]; exact hg) (Kept.refl _ _)
  · obtain ⟨rfl, ad, rfl, hsrc⟩ := hpos (by omega)
    refine wpList_copy_own hgd d s dT sT ho elem hu hsz g off dLen dCap ad sLen sCap hd hs cur.toArray t hg cs hn hsrc (by simpa using hfit) h1 ?_
    exact h _ (by simpa [splice] using setRow_heap w g _ _ t _ hg) (Kept.setRow w g _ rfl)
/-- 'clear' of a slice within a row, empty or not. -/
theorem wpList_clear_row {P : Program} {w : World} {ops : Array Oper} {rest : List Oper} {o : Oper} {a : Act} {Q : Exit → Act → World → Prop} (hgd : o.guard = none) (x : Operand) (st : TypeId)
    (ho : o.op = .call { callee := .builtin .clear, args := #[x], argTypes := #[st] }) (elem : TypeId) (hu : P.underlying st = some (.slice elem)) (z : Value) (hv : ∀ w, (zeroValue elem).run P w = .ok z w) (hz : z.cells = #[z]) (hz1 : z.oneCell' = true)
    (A : Option Addr) (n c : Nat) (hx : a.eval x = .slice A n c) (g off : Nat) (hA : 0 < n → A = some ⟨g, off, none⟩) (cur : List Value) (t : TypeId) (hg : w.heap[g]? = some (.cells cur.toArray t (0, 0))) (hfit : off + n ≤ cur.length)
    (h : ∀ w', w'.heap[g]? = some (.cells (splice cur off (List.replicate n z)).toArray t (0, 0)) → Kept (fun k => k = g) w w' → wpList P ops Q rest (a.put o.dst (.tuple #[])) w') :
    wpList P ops Q (o :: rest) a w := by
  refine wpList_plain hgd fun K hK' => ?_
  cases n with
  | zero =>
    have hrun : (Builtin.clear_ #[st] o.type #[.slice A 0 c]).run P w = .ok (.tuple #[]) w := by cases A <;> simp [Builtin.clear_, run_underlying hu]
    unfold Oper.wp
    simp [execOp, ho, resolve, invoke, builtin, hx, hrun, Result.andThen]
    exact hK' _ _ (h w (by rw [List.replicate_zero, splice_nil]; exact hg) (Kept.refl _ _))
  | succ n =>
    obtain rfl := hA (Nat.succ_pos n)
    have hzc : (Builtin.zeroCells z.cells (n + 1)).toList = List.replicate (n + 1) z := by
      rw [hz]
      simp only [Builtin.zeroCells]
      apply List.ext_getElem
      · simp
      · intro i h1 h2
        simp [Nat.mod_one]
    have hst := run_storeCells_at (P := P) g off t (List.replicate (n + 1) z) 0 cur.toArray w hg (by simpa using hfit) (by intro v hv'; rw [List.eq_of_mem_replicate hv']; exact hz1)
    have hrun : (Builtin.clear_ #[st] o.type #[.slice (some ⟨g, off, none⟩) (n + 1) c]).run P w = .ok (.tuple #[]) (w.setRow g (cur.take off ++ List.replicate (n + 1) z ++ cur.drop (off + (n + 1))).toArray) := by
      simp only [Nat.add_zero, List.length_replicate] at hst
      simp [Builtin.clear_, run_underlying hu, hv, hzc, hst]
    unfold Oper.wp
    simp [execOp, ho, resolve, invoke, builtin, hx, hrun, Result.andThen]
    refine hK' _ _ (h _ ?_ (Kept.setRow w g _ rfl))
    rw [setRow_heap w g _ _ t _ hg]
    simp [splice]

theorem run_arrayAt {P : Program} (w : World) (A : Option Addr) (n cap k : Nat) {t e : TypeId} (ht : P.underlying t = some (.array k e)) (h : k ≤ n) :
    (Instr.arrayAt t (.slice A n cap)).run P w = .ok (.pointer A) w := by
  simp [Instr.arrayAt, run_underlying ht, Nat.not_lt.2 h, Result.andThen]
/-- A whole array loaded out of the middle of a block, in a region that stands still. -/
theorem wpStill_load_mid {P : Program} {ops : Array Oper} {rest : List Oper} {o : Oper} {a : Act} {w : World} {Q : Act → Prop} (hw : Region.wanted o (yielded ops a.tmps) = true) (ty : TypeId) (x : Operand) (ho : o.op = .load ty x)
    (b off : Nat) (hx : a.eval x = .pointer (some ⟨b, off, none⟩)) (cs : List Value) (d : TypeDesc) (hc : w.rangeAt b off cs) (hu : P.underlying ty = some d) (hd : d.isRow = true) (hi : (P.info? ty).map (·.size) = some cs.length)
    (h : wpStill P ops w Q rest (a.put o.dst (.agg cs.toArray))) : wpStill P ops w Q (o :: rest) a := by
  refine wpStill_step fun K hK => ?_
  rw [if_pos hw]
  unfold Oper.still execOp
  simp only [ho, hx, Instr.loadAt, Instr.sureAddr, Sem.run_bind, Sem.run_pure, Result.andThen_ok, run_loadVar_mid w b off ty cs d hc hu hd hi]
  exact ⟨rfl, hK _ h⟩

/-- 's[k:]' of a slice into a row: where it begins is told only where something is left. -/
theorem run_slice_tail {P : Program} {t e : TypeId} (ht : P.underlying t = some (.slice e)) (hsz : (P.info? e).map (·.size) = some 1) (c off n cap k : Nat) (hk : k ≤ n) (hn : n ≤ cap) :
    ∃ A, (k < n → A = some ⟨c, off + k, none⟩) ∧ ∀ w, (Instr.sliceAt t (.slice (some ⟨c, off, none⟩) n cap) (some (.int .i64 (k : Int))) none none).run P w = .ok (.slice A (n - k) (cap - k)) w := by
  refine ⟨if cap = k then some ⟨c, off, none⟩ else some ((⟨c, off, none⟩ : Addr).add k), fun h => ?_, fun w => ?_⟩
  · rw [if_neg (by omega), Addr.add_mid]
  · cases hq : P.info? e with
    | none => simp [hq] at hsz
    | some i =>
      have hs : i.size = 1 := by simpa [hq] using hsz
      simp [Instr.sliceAt, Instr.slice, Instr.sliceBounds, Instr.sliceBound, asIntOf, run_underlying ht, sizeOf, typeInfo, hq, hs, hk, Result.andThen]
theorem wpList_slice_tail {P : Program} {w : World} {ops : Array Oper} {rest : List Oper} {o : Oper} {a : Act} {Q : Exit → Act → World → Prop} (hgd : o.guard = none) (x lo : Operand) (t : TypeId)
    (ho : o.op = .slice t x (some lo) none none) (e : TypeId) (ht : P.underlying t = some (.slice e)) (hsz : (P.info? e).map (·.size) = some 1) (c off n cap k : Nat)
    (hx : a.eval x = .slice (some ⟨c, off, none⟩) n cap) (hlo : a.eval lo = .int .i64 (k : Int)) (hk : k ≤ n) (hn : n ≤ cap)
    (h : ∀ A, (k < n → A = some ⟨c, off + k, none⟩) → wpList P ops Q rest (a.put o.dst (.slice A (n - k) (cap - k))) w) : wpList P ops Q (o :: rest) a w := by
  refine wpList_plain hgd fun K hK' => ?_
  obtain ⟨A, hA, hrun⟩ := run_slice_tail ht hsz c off n cap k hk hn
  unfold Oper.wp
  simp [execOp, ho, hx, hlo, hrun, Result.andThen]
  exact hK' _ _ (h A hA)
theorem u8_cells : Value.cells (.int .u8 0) = #[.int .u8 0] := rfl
theorem u8_one : (Value.int .u8 0).oneCell' = true := rfl
/-! ### what a Write makes of a device -/
def pad (b : List Nat) : List Nat := b ++ List.replicate (64 - b.length) 0
def putSec (l : List Nat) (i : Nat) (p : List Nat) : List Nat := l.take (i * 64) ++ p ++ l.drop (i * 64 + 64)
theorem pad_len {b : List Nat} (h : b.length ≤ 64) : (pad b).length = 64 := by unfold pad; rw [List.length_append, List.length_replicate]; omega
theorem pad_lt {b : List Nat} (h : ∀ x ∈ b, x < 256) : ∀ x ∈ pad b, x < 256 := fun x hx => by
  rcases List.mem_append.1 hx with h1 | h1
  · exact h x h1
  · rw [List.eq_of_mem_replicate h1]; decide
theorem putSec_len {l p : List Nat} {n i : Nat} (hl : l.length = n * 64) (hi : i < n) (hp : p.length = 64) : (putSec l i p).length = n * 64 := by
  unfold putSec; rw [List.length_append, List.length_append, List.length_take, List.length_drop, hp]; omega
theorem putSec_lt {l p : List Nat} {i : Nat} (hl : ∀ x ∈ l, x < 256) (hp : ∀ x ∈ p, x < 256) : ∀ x ∈ putSec l i p, x < 256 := fun x hx => by
  unfold putSec at hx
  rcases List.mem_append.1 hx with h1 | h1
  · rcases List.mem_append.1 h1 with h2 | h2
    · exact hl x (List.mem_of_mem_take h2)
    · exact hp x h2
  · exact hl x (List.mem_of_mem_drop h1)
/-- The two stores of a Write. -/
theorem splice_pad {l b : List Nat} {n i : Nat} {rest : List Value} (hl : l.length = n * 64) (hi : i < n) (hb : b.length ≤ 64) :
    splice (splice (vals l ++ rest) (i * 64) (vals b)) (i * 64 + b.length) (List.replicate (64 - b.length) (.int .u8 0)) = vals (putSec l i (pad b)) ++ rest := by
  have hz : List.replicate (64 - b.length) (Value.int .u8 0) = vals (List.replicate (64 - b.length) 0) := by simp [vals]
  have e1 : splice (vals l ++ rest) (i * 64) (vals b) = vals (l.take (i * 64)) ++ vals b ++ vals (l.drop (i * 64 + b.length)) ++ rest := by
    unfold splice
    rw [vals_length, List.take_append_of_le_length (by rw [vals_length]; omega), List.drop_append_of_le_length (by rw [vals_length]; omega)]
    simp [vals, List.map_take, List.map_drop]
  rw [e1, hz]
  unfold splice
  have h1 : (vals (l.take (i * 64)) ++ vals b).length = i * 64 + b.length := by rw [List.length_append, vals_length, vals_length, List.length_take]; omega
  have e2 : (vals (l.take (i * 64)) ++ vals b ++ vals (l.drop (i * 64 + b.length)) ++ rest).take (i * 64 + b.length) = vals (l.take (i * 64)) ++ vals b := by
    rw [List.append_assoc, List.take_append_of_le_length (by omega), List.take_of_length_le (by omega)]
  have e3 : (vals (l.take (i * 64)) ++ vals b ++ vals (l.drop (i * 64 + b.length)) ++ rest).drop (i * 64 + b.length + (vals (List.replicate (64 - b.length) 0)).length) = vals (l.drop (i * 64 + 64)) ++ rest := by
    rw [vals_length, List.length_replicate, List.append_assoc, List.drop_append, h1, List.drop_eq_nil_of_le (by omega), List.nil_append, show i * 64 + b.length + (64 - b.length) - (i * 64 + b.length) = 64 - b.length by omega,
      List.drop_append_of_le_length (by rw [vals_length, List.length_drop]; omega)]
    unfold vals
    rw [← List.map_drop, List.drop_drop, show i * 64 + b.length + (64 - b.length) = i * 64 + 64 by omega]
  rw [e2, e3]
  simp [putSec, pad, vals]
def Flash.wrote (s : Flash) (i : Nat) (b : List Nat) : Flash :=
  { s with cur := putSec s.cur i (pad b), old := fun k => if k = i then some ((s.old i).getD (sec s.cur i)) else s.old k, wr := s.wr + 1 }
def Flash.writeErr (s : Flash) (n : Nat) (i : Int) (b : List Nat) : Int :=
  if s.dead = true then 1 else if i < 0 ∨ (n : Int) ≤ i then 2 else if 64 < b.length then 3 else if s.lasts = true then 0 else 1
def Flash.write (s : Flash) (n : Nat) (i : Int) (b : List Nat) : Flash :=
  if s.dead = true ∨ i < 0 ∨ (n : Int) ≤ i ∨ 64 < b.length then s else if s.lasts = true then s.burnt.wrote i.toNat b else s.burnt
theorem old_put {D : DataW Value} {n i : Nat} {old : Nat → Option (List Nat)} {l : List Nat} (h : OldIs D n old) (hm : IsMap D) (hi : i < n) (hl : l.length = 64) (hb : ∀ x ∈ l, x < 256) :
    OldIs (D.put (.int .i64 (i : Int)) (.held (oldVal l))) n (fun k => if k = i then some l else old k) := by
  refine ⟨fun k hk => ?_, fun x hx => ?_, fun k l' hl' z => ?_, fun k hk => ?_, fun k l' hl' => ?_⟩
  · by_cases e : k = i
    · subst e
      rw [has_put_same hm (isKey_int _), if_pos rfl]; rfl
    · rw [has_put_other (fun e' => e (by injection e' with _ e'; omega)), h.has k hk, if_neg e]
  · by_cases e : x = (i : Int)
    · exact ⟨i, hi, e⟩
    · rw [has_put_other (fun e' => e (by injection e'))] at hx
      exact h.keys x hx
  · by_cases e : k = i
    · subst e
      rw [if_pos rfl] at hl'
      injection hl' with hl'
      subst hl'
      exact atKey_put_same hm (isKey_int _) _ _
    · rw [if_neg e] at hl'
      rw [atKey_put_other (fun e' => e (by injection e' with _ e'; omega))]
      exact h.at_ k l' hl' z
  · rw [if_neg (by omega)]; exact h.none k hk
  · by_cases e : k = i
    · rw [if_pos e] at hl'
      injection hl' with hl'
      subst hl'
      exact ⟨hl, hb⟩
    · rw [if_neg e] at hl'
      exact h.len k l' hl'
theorem zero_info : (Tryz.prog.info? 105).map (fun i => (i.zero, i.size)) = some (some (oldVal (List.replicate 64 0)), 64) := by kernel_rfl
theorem zero64 (w : World) : (zeroValue 105).run Tryz.prog w = .ok (oldVal (List.replicate 64 0)) w := (zero_of_info zero_info).1 w
theorem size64 : (Tryz.prog.info? 105).map (·.size) = some 64 := (zero_of_info zero_info).2
/-- What a look-up of an old sector yields. -/
theorem old_look {D : DataW Value} {n i : Nat} {old : Nat → Option (List Nat)} (h : OldIs D n old) (hi : i < n) {v : Value} {ps : List MemPlace} (hv : rawElem v = some (D.atKey (.int .i64 (i : Int)) (.held (oldVal (List.replicate 64 0))), ps)) :
    v = oldVal ((old i).getD (List.replicate 64 0)) := by
  unfold rawElem at hv
  injection hv with hv
  injection hv with hv _
  cases ho : old i with
  | none =>
    have hh := h.has i hi
    rw [ho] at hh
    rw [atKey_of_not_has hh] at hv
    injection hv
  | some l =>
    rw [h.at_ i l ho] at hv
    injection hv
theorem old_shape {D : DataW Value} {n i : Nat} {old : Nat → Option (List Nat)} (h : OldIs D n old) (hi : i < n) {v : Value} {ps : List MemPlace} (hv : rawElem v = some (D.atKey (.int .i64 (i : Int)) (.held (oldVal (List.replicate 64 0))), ps)) :
    ∃ cs : List Value, v = .agg cs.toArray ∧ cs.length = 64 ∧ ∀ u ∈ cs, u.oneCell' = true := by
  have e := old_look h hi hv
  refine ⟨_, e, ?_, vals_one _⟩
  rw [vals_length]
  cases ho : old i with
  | none => rfl
  | some l => exact (h.len i l ho).1
/-- A whole variable stored, the world behind it under a name. -/
theorem wpList_store_var {P : Program} {ops : Array Oper} {rest : List Oper} {o : Oper} {a : Act} {w : World} {Q : Exit → Act → World → Prop} (hgd : o.guard = none) (ty : TypeId) (x y : Operand) (ho : o.op = .store ty x y)
    (g : Nat) (cs : List Value) (hx : a.eval x = .pointer (some ⟨g, 0, none⟩)) (hy : a.eval y = .agg cs.toArray)
    (t : TypeId) (hg : ∃ old : Array Value, w.heap[g]? = some (.cells old t (0, 0)) ∧ old.size = cs.length) (hi : (P.info? ty).map (·.size) = some cs.length)
    (h1 : ∀ u ∈ cs, u.oneCell' = true)
    (h : ∀ w', w'.heap[g]? = some (.cells cs.toArray t (0, 0)) → Kept (fun k => k = g) w w' → wpList P ops Q rest (a.put o.dst undef) w') : wpList P ops Q (o :: rest) a w :=
  let ⟨old, hg, hold⟩ := hg
  wpList_store_row hgd ty x y ho g cs.toArray hx hy t old hg (by simpa using hi) (by simpa using hold) (all_oneCell_toArray h1) (h _ (setRow_heap w g _ _ t _ hg) (Kept.setRow w g _ rfl))
section
variable {g c m n : Nat} {s : Flash} {w w' : World}
theorem dev_turned {N : Nat} {D' : DataW Value} {old' : Nat → Option (List Nat)} (h : Dev w g c m n s) (hk : Kept (fun k => k = m) w w') (hm' : w'.ownsMap Tryz.prog 3 rawElem m N D') (ho' : OldIs D' n old') : Dev w' g c m n { s with old := old' } := by
  obtain ⟨h1, h2, h3⟩ := h.apart
  obtain ⟨l1, l2, l3⟩ := h.lt
  obtain ⟨rest, D, hh, hc, hm, ho, hl, hb, hn1, hn2, hcap, hgc, hfu⟩ := h
  exact ⟨rest, D', (hk.block g l1 h2).trans hh, (hk.block c l2 h3).trans hc, ownsMap_size hm', ho', hl, hb, hn1, hn2, hcap, hgc, hfu⟩
/-- Bytes that came in lie neither in the struct nor in the map. -/
theorem bs_apart (h : Dev w g c m n s) {B : Nat} {A : Option Addr} {b : List Nat} (hb : Bs w B A b) : ∀ ad, A = some ad → 0 < b.length → ¬ (ad.block = g ∨ ad.block = m) := fun ad e hl => by
  subst e
  obtain ⟨h1, ad', e, h3, h4⟩ := hb 0 hl
  injection e with e
  subst e
  obtain ⟨rest, D, hh, hc, ⟨es, clock, hm, _⟩, ho, _⟩ := h
  rintro (rfl | rfl)
  · unfold World.cell? at h4
    rw [add_block, hh] at h4
    dsimp only at h4
    split at h4
    · cases h4
    · generalize (ad.add 0).off = o at h4
      match o, h4 with
      | 0, h4 => cases h4
      | 1, h4 => cases h4
      | 2, h4 => cases h4
      | 3, h4 => cases h4
      | 4, h4 => cases h4
      | 5, h4 => cases h4
      | o + 6, h4 => simp at h4
  · unfold World.cell? at h4
    rw [add_block, hm] at h4
    cases h4
theorem dev_row {rest : List Value} {D : DataW Value} {cur' : List Nat} (h : Dev w g c m n s)
    (hh : w.heap[g]? = some (.cells #[.slice (some ⟨c, 0, none⟩) (n * 64) (n * 64 + rest.length), .map (some m), .int .i64 (s.wr : Int), .bool s.fused, .int .i64 s.fuse, .bool s.dead] 100 (0, 0)))
    (hm : w.ownsMap Tryz.prog 3 rawElem m (Maps.size D) D) (ho : OldIs D n s.old)
    (hcap : n * 64 + rest.length ≤ 9223372036854775807) (hk : Kept (fun k => k = c) w w') (hc' : w'.heap[c]? = some (.cells (vals cur' ++ rest).toArray 5 (0, 0))) (hl : cur'.length = n * 64) (hb : ∀ x ∈ cur', x < 256) : Dev w' g c m n { s with cur := cur' } := by
  obtain ⟨h1, h2, h3⟩ := h.apart
  obtain ⟨l1, l2, l3⟩ := h.lt
  exact ⟨rest, D, (hk.block g l1 h1).trans hh, hc', ownsMap_block hm (hk.block m l3 (fun e => h3 e.symm)), ho, hl, hb, h.n_le.1, h.n_le.2, hcap, h1, h.fuse_in⟩
def WriteDid (w : World) (g c m n : Nat) (s : Flash) (k : Int) (e : Ending) (w' : World) : Prop := e = .returned (.int .i64 k) ∧ Dev w' g c m n s ∧ Kept (devS g c m) w w'
set_option maxHeartbeats 1000000 in
theorem write_new (A : Option Addr) (B k cb : Nat) (b : List Nat) (i : Nat) (hi : i < n) (hk : k ≤ 64) (hl : Hid (b.length = k)) (hb : Hid (Bs w B A b))
    (hd : Hid (Dev w g c m n s)) (hdead : Hid (s.dead = false)) (hlast : Hid (s.lasts = true)) (hwr : s.wr < 4611686018427387904) (ho : Hid (s.old i = none)) :
    Calls Tryz.prog 79 #[.pointer (some ⟨g, 0, none⟩), .int .i64 (i : Int), .slice A k cb] w (WriteDid w g c m n (s.burnt.wrote i b) 0) := by
  have hz : decide (0 ≤ (i : Int) ∧ (i : Int) < (n : Int)) = true := by simp; omega
  have hn := hd.out.n_le
  have hkey := keyInt i (by omega)
  have HK := Lib.hid hkey; clear hkey
  have hwr1 : s.burnt.wr < 4611686018427387904 := by rw [(burnt_cur s).2.2]; exact hwr
  go_enter Tryz.func79, Tryz.ntmps79
  go_wp2_with (first
    | (go_at_call 62; refine (dead_any hd).mono ?_; rw [hdead.out]; rintro e w' ⟨rfl, rfl⟩)
    | (go_at_call 63; refine (has_any _ hd).mono ?_; rw [hz]; rintro e w' ⟨rfl, rfl⟩)
    | (go_at_call 82; refine (burn_any hd).mono ?_; rw [hlast.out]; rintro e w1 ⟨rfl, hd1, hk1⟩; have HD := Lib.hid hd1; have HK1 := Lib.hid hk1; obtain ⟨rest, D, hh, hc, hm, hrest⟩ := hd1; obtain ⟨⟨-, c1, -⟩, -⟩ := rd6 hh; have HM := Lib.hid (And.intro hh (And.intro hc (And.intro hm hrest))); clear hh hc hm hrest hk1)
    | (go_at_call 52; refine (sector_any i _ rfl hi HD).mono ?_; rintro e w' ⟨cap, rfl, hc1, hc2, rfl⟩)
    | (at_lookup; refine wpList_lookup_own_ok _ rfl _ _ 98 rfl 3 105 lawI Tryz.underlying98 rawElem (zero64 _) (.held (oldVal (List.replicate 64 0))) [] rfl m _ D rfl HM.out.2.2.1 _ _ rfl HK.out ?_; intro v ps hv; obtain ⟨cs, rfl, hcs, hcs1⟩ := old_shape HM.out.2.2.2.1 hi hv; rw [HM.out.2.2.2.1.has i hi, (burnt_cur s).2.1, ho.out]; have HCS := Lib.hid (And.intro hcs (And.intro (show (Tryz.prog.info? 105).map (·.size) = some cs.length by rw [hcs]; exact size64) hcs1)); clear hv hcs hcs1)
    | (with_reducible refine wpList_store_var rfl 105 (.tmp 8) (.tmp 32) rfl w1.heap.size cs rfl rfl 105 ?_ HCS.out.2.1 HCS.out.2.2 ?_
       · exact ⟨_, heap_alloc_new _ _, by rw [HCS.out.1]; rfl⟩
       intro w2 hw2 hk2; clear hw2))
  have HD2 : Hid (Dev w2 g c m n s.burnt ∧ Kept (fun k => k = g) w w2) := by
    obtain ⟨l1, l2, l3⟩ := HD.out.lt
    have ka : Kept (fun k => k = w1.heap.size) w1 w2 := (Kept.alloc w1 _).trans hk2
    exact ⟨HD.out.kept ka (by omega) (by omega) (by omega), HK1.out.trans' ka (fun k e h => absurd h (by have := HK1.out.size; omega))⟩
  obtain ⟨rest2, D2, hh, hc, hm, hrest⟩ := HD2.out.1
  obtain ⟨⟨-, c2, -⟩, -⟩ := rd6 hh
  have HR : Hid (w2.rangeAt c (i * 64) (vals (sec s.burnt.cur i)) ∧ (Tryz.prog.info? 105).map (·.size) = some (vals (sec s.burnt.cur i)).length) := by
    refine ⟨fun j v hv => ?_, by rw [vals_length, sec_len HD2.out.1.cur_len hi]; exact size64⟩
    obtain ⟨hj, rfl⟩ := vals_get hv
    obtain ⟨_, ad, e, _, hcell⟩ := HD2.out.1.sec hi j hj
    injection e with e
    subst e
    rw [add_flat] at hcell
    exact hcell
  have harr := fun w => run_arrayAt (P := Tryz.prog) w (some ⟨c, i * 64, none⟩) 64 cap 64 Tryz.underlying105 (Nat.le_refl _)
  have HM2 := Lib.hid (And.intro hh (And.intro hc (And.intro hm hrest))); clear hh hc hm hrest c1 HM
  refine wp_region_still_tail 8 (by kernel_rfl) (by kernel_rfl) ?_
  simp only [List.take_succ_cons, List.take_zero, List.drop_succ_cons, List.drop_zero]
  iterate 7 still_step
  refine wpStill_load_mid rfl 105 (.tmp 42) rfl c (i * 64) rfl (vals (sec s.burnt.cur i)) _ HR.out.1 Tryz.underlying105 rfl HR.out.2 ?_
  clear harr c2
  refine wpStill_nil ?_
  change wpList _ _ _ _ _ w2.drew
  have HD3 : Hid (Dev w2.drew g c m n s.burnt ∧ Kept (fun k => k = g) w w2.drew) := ⟨HD2.out.1, HD2.out.2.drewN 1⟩
  have HM3 : Hid (w2.drew.ownsMap Tryz.prog 3 rawElem m (Maps.size D2) D2 ∧ OldIs D2 n s.burnt.old) := ⟨HM2.out.2.2.1, HM2.out.2.2.2.1⟩
  have HSZ : Hid (Maps.size D2 < maxLen) := by
    have h1 := (size_dirty HM3.out.1 HM3.out.2).2
    have h2 := dirty_le n s.burnt.old
    unfold Hid maxLen
    omega
  generalize w2.drew = w3 at HD3 HM3 ⊢
  clear HD2 HM2 hk2 HD HK1
  have HB : Hid (∀ ad, A = some ad → 0 < b.length → ¬ (ad.block = g ∨ ad.block = m)) := bs_apart hd.out hb.out
  have HI : Hid ((Tryz.prog.info? 5).map (·.size) = some 1 ∧ (∀ w, (zeroValue 5).run Tryz.prog w = .ok (.int .u8 0) w) ∧ (vals b).length = k ∧ (vals b).length = Nat.min k 64) :=
    ⟨by kernel_rfl, fun _ => by kernel_rfl, by rw [vals_length, hl.out], by rw [vals_length, hl.out]; exact (Nat.min_eq_left hk).symm⟩
  go_wp2_with (first
    | (at_mapUpdate; refine wpList_mapUpdate_own _ rfl _ _ _ 98 rfl 3 105 lawI Tryz.underlying98 rawElem m _ D2 rfl HM3.out.1 HSZ.out (.int .i64 (i : Int)) (oldVal (sec s.burnt.cur i)) (.int .i64 (i : Int)) rfl rfl HK.out (.held (oldVal (sec s.burnt.cur i))) [] rfl ?_; intro w4 hown4 hg4
       have HD4 : Hid (Dev w4 g c m n { s.burnt with old := fun k => if k = i then some (sec s.burnt.cur i) else s.burnt.old k } ∧ Kept (devS g c m) w w4 ∧ Bs w4 B A b) := by
         have k4 : Kept (fun k => k = m) w3 w4 := Kept.of_grown hg4 (fun _ e => (Option.some.inj e).symm)
         have k5 : Kept (fun k => k = g ∨ k = m) w w4 := (HD3.out.2.mono fun k _ e => .inl e).trans (k4.mono fun k _ e => .inr e)
         refine ⟨dev_turned HD3.out.1 k4 hown4 (old_put HM3.out.2 HM3.out.1.isMap hi (sec_len HD3.out.1.cur_len hi) (fun x hx => ?_)), k5.mono (fun k _ e => e.elim .inl (fun e => .inr (.inr e))), hb.out.kept k5 HB.out⟩
         unfold sec at hx
         exact HD3.out.1.cur_lt x (List.mem_of_mem_drop (List.mem_of_mem_take hx))
       clear hown4 hg4
       obtain ⟨rest4, D4, hh, hc, hm, hrest⟩ := HD4.out.1
       have HM4 := Lib.hid (And.intro hh (And.intro hc (And.intro hm hrest))); clear hh hc hm hrest)
    | (with_reducible refine wpList_copy_into rfl (.tmp 45) (.tmp 46) 27 27 rfl 5 Tryz.underlying27 HI.out.1 (some ⟨c, i * 64, none⟩) A 64 cap k cb rfl rfl c (i * 64) (vals s.burnt.cur ++ rest4) 5 HM4.out.2.1 (vals b) HI.out.2.2.2 ?_ ?_ (vals_one b) k HI.out.2.2.1 ?_
       · intro hp
         refine ⟨rfl, ?_⟩
         rw [vals_length] at hp
         obtain ⟨_, ad, rfl, _, _⟩ := HD4.out.2.2 0 hp
         exact ⟨ad, rfl, HD4.out.2.2.cells⟩
       · have h1 := HI.out.2.2.1
         have h2 := HD4.out.1.cur_len
         rw [List.length_append, h1, vals_length]
         have h3 : s.burnt.cur.length = n * 64 := h2
         omega
       intro w5 hc5 hk5
       have HC5 := Lib.hid hc5; clear hc5)
    | (with_reducible refine wpList_slice_tail rfl (.tmp 44) (.tmp 47) 27 rfl 5 Tryz.underlying27 HI.out.1 c (i * 64) 64 cap k rfl rfl hk hc1 ?_; intro A6 hA6; have HA6 := Lib.hid hA6; clear hA6)
    | (with_reducible refine wpList_clear_row rfl (.tmp 48) 27 rfl 5 Tryz.underlying27 (.int .u8 0) HI.out.2.1 u8_cells u8_one A6 (64 - k) (cap - k) rfl c (i * 64 + k) ?_ (splice (vals s.burnt.cur ++ rest4) (i * 64) (vals b)) 5 HC5.out ?_ ?_
       · intro h
         exact HA6.out (by omega)
       · have h1 := HI.out.2.2.1
         have h3 : s.burnt.cur.length = n * 64 := HD4.out.1.cur_len
         rw [length_splice _ _ _ (by rw [List.length_append, h1, vals_length]; omega), List.length_append, vals_length]
         omega
       intro w6 hc6 hk6
       have HD6 : Hid (Dev w6 g c m n { s.burnt with old := fun k => if k = i then some (sec s.burnt.cur i) else s.burnt.old k, cur := putSec s.burnt.cur i (pad b) } ∧ Kept (devS g c m) w w6) := by
         have h3 : s.burnt.cur.length = n * 64 := HD4.out.1.cur_len
         have h4 : b.length ≤ 64 := by rw [hl.out]; exact hk
         have k6 : Kept (fun k => k = c) w4 w6 := hk5.trans hk6
         have e := splice_pad (rest := rest4) h3 hi h4
         rw [hl.out] at e
         rw [e] at hc6
         refine ⟨dev_row HD4.out.1 HM4.out.1 HM4.out.2.2.1 HM4.out.2.2.2.1 HM4.out.2.2.2.2.2.2.2.2.1 k6 hc6 (putSec_len h3 hi (pad_len h4)) (putSec_lt HD4.out.1.cur_lt (pad_lt hb.out.lt)), HD4.out.2.1.trans (k6.mono fun k _ e => .inr (.inl e))⟩
       clear hc6
       obtain ⟨rest6, D6, hh, hc, hm, hrest⟩ := HD6.out.1
       obtain ⟨⟨-, -, c2, -⟩, -, -, f2, -⟩ := rd6 hh
       have HM6 := Lib.hid (And.intro hh (And.intro hc (And.intro hm hrest))); clear hh hc hm hrest))
  go_ret
  have K7 : Kept (fun k => k = g) w6 (w6.setCell ⟨g, 2, none⟩ (.int .i64 ((s.burnt.wr : Int) + 1))) := Kept.setCell (S := fun k => k = g) w6 ⟨g, 2, none⟩ _ rfl
  have e : s.burnt.wrote i b = { s.burnt with old := fun k => if k = i then some (sec s.burnt.cur i) else s.burnt.old k, cur := putSec s.burnt.cur i (pad b), wr := s.burnt.wr + 1 } := by
    have h0 : s.burnt.old i = none := by rw [(burnt_cur s).2.1]; exact ho.out
    unfold Flash.wrote
    rw [h0]; rfl
  refine ⟨rfl, ?_, HD6.out.2.trans (K7.mono fun k _ e => .inl e)⟩
  rw [e]
  refine dev_struct HD6.out.1 _ rfl rfl HD6.out.1.fuse_in K7 (fun a0 a1 h => ?_)
  simp [World.setCell, Array.getElem?_modify, h]
set_option maxHeartbeats 1000000 in
theorem write_again (A : Option Addr) (B k cb : Nat) (b : List Nat) (i : Nat) (hi : i < n) (hk : k ≤ 64) (hl : Hid (b.length = k)) (hb : Hid (Bs w B A b))
    (hd : Hid (Dev w g c m n s)) (hdead : Hid (s.dead = false)) (hlast : Hid (s.lasts = true)) (hwr : s.wr < 4611686018427387904) (lo : List Nat) (ho : Hid (s.old i = some lo)) :
    Calls Tryz.prog 79 #[.pointer (some ⟨g, 0, none⟩), .int .i64 (i : Int), .slice A k cb] w (WriteDid w g c m n (s.burnt.wrote i b) 0) := by
  have hz : decide (0 ≤ (i : Int) ∧ (i : Int) < (n : Int)) = true := by simp; omega
  have hn := hd.out.n_le
  have hkey := keyInt i (by omega)
  have HK := Lib.hid hkey; clear hkey
  have hwr1 : s.burnt.wr < 4611686018427387904 := by rw [(burnt_cur s).2.2]; exact hwr
  have HB : Hid (∀ ad, A = some ad → 0 < b.length → ¬ (ad.block = g ∨ ad.block = m)) := bs_apart hd.out hb.out
  have HI : Hid ((Tryz.prog.info? 5).map (·.size) = some 1 ∧ (∀ w, (zeroValue 5).run Tryz.prog w = .ok (.int .u8 0) w) ∧ (vals b).length = k ∧ (vals b).length = Nat.min k 64) :=
    ⟨by kernel_rfl, fun _ => by kernel_rfl, by rw [vals_length, hl.out], by rw [vals_length, hl.out]; exact (Nat.min_eq_left hk).symm⟩
  go_enter Tryz.func79, Tryz.ntmps79
  go_wp2_with (first
    | (go_at_call 62; refine (dead_any hd).mono ?_; rw [hdead.out]; rintro e w' ⟨rfl, rfl⟩)
    | (go_at_call 63; refine (has_any _ hd).mono ?_; rw [hz]; rintro e w' ⟨rfl, rfl⟩)
    | (go_at_call 82; refine (burn_any hd).mono ?_; rw [hlast.out]; rintro e w1 ⟨rfl, hd1, hk1⟩; have HD := Lib.hid hd1; have HK1 := Lib.hid hk1; obtain ⟨rest, D, hh, hc, hm, hrest⟩ := hd1; obtain ⟨⟨-, c1, -⟩, -⟩ := rd6 hh; have HM := Lib.hid (And.intro hh (And.intro hc (And.intro hm hrest))); clear hh hc hm hrest hk1)
    | (go_at_call 52; refine (sector_any i _ rfl hi HD).mono ?_; rintro e w' ⟨cap, rfl, hc1, hc2, rfl⟩)
    | (at_lookup; refine wpList_lookup_own_ok _ rfl _ _ 98 rfl 3 105 lawI Tryz.underlying98 rawElem (zero64 _) (.held (oldVal (List.replicate 64 0))) [] rfl m _ D rfl HM.out.2.2.1 _ _ rfl HK.out ?_; intro v ps hv; obtain ⟨cs, rfl, hcs, hcs1⟩ := old_shape HM.out.2.2.2.1 hi hv; rw [HM.out.2.2.2.1.has i hi, (burnt_cur s).2.1, ho.out]; have HCS := Lib.hid (And.intro hcs (And.intro (show (Tryz.prog.info? 105).map (·.size) = some cs.length by rw [hcs]; exact size64) hcs1)); clear hv hcs hcs1)
    | (with_reducible refine wpList_store_var rfl 105 (.tmp 8) (.tmp 32) rfl w1.heap.size cs rfl rfl 105 ?_ HCS.out.2.1 HCS.out.2.2 ?_
       · exact ⟨_, heap_alloc_new _ _, by rw [HCS.out.1]; rfl⟩
       intro w2 hw2 hk2; clear hw2
       have HD4 : Hid (Dev w2 g c m n s.burnt ∧ Kept (devS g c m) w w2 ∧ Bs w2 B A b) := by
         obtain ⟨l1, l2, l3⟩ := HD.out.lt
         have ka : Kept (fun k => k = w1.heap.size) w1 w2 := (Kept.alloc w1 _).trans hk2
         have k5 : Kept (fun k => k = g) w w2 := HK1.out.trans' ka (fun k e h => absurd h (by have := HK1.out.size; omega))
         exact ⟨HD.out.kept ka (by omega) (by omega) (by omega), k5.mono (fun k _ e => .inl e), hb.out.kept k5 (fun ad e h h' => HB.out ad e h (.inl h'))⟩
       clear hk2
       obtain ⟨rest4, D4, hh, hc, hm, hrest⟩ := HD4.out.1
       have HM4 := Lib.hid (And.intro hh (And.intro hc (And.intro hm hrest))); clear hh hc hm hrest)
    | (with_reducible refine wpList_copy_into rfl (.tmp 45) (.tmp 46) 27 27 rfl 5 Tryz.underlying27 HI.out.1 (some ⟨c, i * 64, none⟩) A 64 cap k cb rfl rfl c (i * 64) (vals s.burnt.cur ++ rest4) 5 HM4.out.2.1 (vals b) HI.out.2.2.2 ?_ ?_ (vals_one b) k HI.out.2.2.1 ?_
       · intro hp
         refine ⟨rfl, ?_⟩
         rw [vals_length] at hp
         obtain ⟨_, ad, rfl, _, _⟩ := HD4.out.2.2 0 hp
         exact ⟨ad, rfl, HD4.out.2.2.cells⟩
       · have h1 := HI.out.2.2.1
         have h2 := HD4.out.1.cur_len
         rw [List.length_append, h1, vals_length]
         have h3 : s.burnt.cur.length = n * 64 := h2
         omega
       intro w5 hc5 hk5
       have HC5 := Lib.hid hc5; clear hc5)
    | (with_reducible refine wpList_slice_tail rfl (.tmp 44) (.tmp 47) 27 rfl 5 Tryz.underlying27 HI.out.1 c (i * 64) 64 cap k rfl rfl hk hc1 ?_; intro A6 hA6; have HA6 := Lib.hid hA6; clear hA6)
    | (with_reducible refine wpList_clear_row rfl (.tmp 48) 27 rfl 5 Tryz.underlying27 (.int .u8 0) HI.out.2.1 u8_cells u8_one A6 (64 - k) (cap - k) rfl c (i * 64 + k) ?_ (splice (vals s.burnt.cur ++ rest4) (i * 64) (vals b)) 5 HC5.out ?_ ?_
       · intro h
         exact HA6.out (by omega)
       · have h1 := HI.out.2.2.1
         have h3 : s.burnt.cur.length = n * 64 := HD4.out.1.cur_len
         rw [length_splice _ _ _ (by rw [List.length_append, h1, vals_length]; omega), List.length_append, vals_length]
         omega
       intro w6 hc6 hk6
       have HD6 : Hid (Dev w6 g c m n { s.burnt with cur := putSec s.burnt.cur i (pad b) } ∧ Kept (devS g c m) w w6) := by
         have h3 : s.burnt.cur.length = n * 64 := HD4.out.1.cur_len
         have h4 : b.length ≤ 64 := by rw [hl.out]; exact hk
         have k6 : Kept (fun k => k = c) w2 w6 := hk5.trans hk6
         have e := splice_pad (rest := rest4) h3 hi h4
         rw [hl.out] at e
         rw [e] at hc6
         refine ⟨dev_row HD4.out.1 HM4.out.1 HM4.out.2.2.1 HM4.out.2.2.2.1 HM4.out.2.2.2.2.2.2.2.2.1 k6 hc6 (putSec_len h3 hi (pad_len h4)) (putSec_lt HD4.out.1.cur_lt (pad_lt hb.out.lt)), HD4.out.2.1.trans (k6.mono fun k _ e => .inr (.inl e))⟩
       clear hc6
       obtain ⟨rest6, D6, hh, hc, hm, hrest⟩ := HD6.out.1
       obtain ⟨⟨-, -, c2, -⟩, -, -, f2, -⟩ := rd6 hh
       have HM6 := Lib.hid (And.intro hh (And.intro hc (And.intro hm hrest))); clear hh hc hm hrest))
  go_ret
  have K7 : Kept (fun k => k = g) w6 (w6.setCell ⟨g, 2, none⟩ (.int .i64 ((s.burnt.wr : Int) + 1))) := Kept.setCell (S := fun k => k = g) w6 ⟨g, 2, none⟩ _ rfl
  have e : s.burnt.wrote i b = { s.burnt with cur := putSec s.burnt.cur i (pad b), wr := s.burnt.wr + 1 } := by
    have h0 : s.burnt.old i = some lo := by rw [(burnt_cur s).2.1]; exact ho.out
    have h1 : (fun k => if k = i then some ((s.burnt.old i).getD (sec s.burnt.cur i)) else s.burnt.old k) = s.burnt.old := by
      funext k
      by_cases e : k = i
      · subst e; rw [if_pos rfl, h0]; rfl
      · rw [if_neg e]
    unfold Flash.wrote
    rw [h1]
  refine ⟨rfl, ?_, HD6.out.2.trans (K7.mono fun k _ e => .inl e)⟩
  rw [e]
  refine dev_struct HD6.out.1 _ rfl rfl HD6.out.1.fuse_in K7 (fun a0 a1 h => ?_)
  simp [World.setCell, Array.getElem?_modify, h]
end
end Go.Proofs.YtledfdpabmlecaaGreatDoor
end
section
set_option maxRecDepth 100000
namespace Go.Proofs.YtledfdpabmlecaaGreatDoor
open Go.RowKit Go.Maps
section
variable {g c m n : Nat} {s : Flash} {w : World}
theorem write_dead (i : Int) (v : Value) (hd : Hid (Dev w g c m n s)) (hdead : Hid (s.dead = true)) :
    Calls Tryz.prog 79 #[.pointer (some ⟨g, 0, none⟩), .int .i64 i, v] w (WriteDid w g c m n s 1) := by
  go_enter Tryz.func79, Tryz.ntmps79
  go_wp2_with (go_at_call 62; refine (dead_any hd).mono ?_; rw [hdead.out]; rintro e w' ⟨rfl, rfl⟩)
  go_ret
  exact ⟨rfl, hd.out, Kept.refl _ _⟩
theorem write_range (i : Int) (v : Value) (hi : i < 0 ∨ (n : Int) ≤ i) (hd : Hid (Dev w g c m n s)) (hdead : Hid (s.dead = false)) :
    Calls Tryz.prog 79 #[.pointer (some ⟨g, 0, none⟩), .int .i64 i, v] w (WriteDid w g c m n s 2) := by
  have hz : decide (0 ≤ i ∧ i < (n : Int)) = false := by simp; omega
  clear hi
  go_enter Tryz.func79, Tryz.ntmps79
  go_wp2_with (first
    | (go_at_call 62; refine (dead_any hd).mono ?_; rw [hdead.out]; rintro e w' ⟨rfl, rfl⟩)
    | (go_at_call 63; refine (has_any _ hd).mono ?_; rw [hz]; rintro e w' ⟨rfl, rfl⟩))
  go_ret
  exact ⟨rfl, hd.out, Kept.refl _ _⟩
theorem write_long (i : Int) (A : Option Addr) (k cb : Nat) (hi1 : 0 ≤ i) (hi2 : i < (n : Int)) (hk : 64 < k) (hkm : k ≤ 9223372036854775807) (hd : Hid (Dev w g c m n s)) (hdead : Hid (s.dead = false)) :
    Calls Tryz.prog 79 #[.pointer (some ⟨g, 0, none⟩), .int .i64 i, .slice A k cb] w (WriteDid w g c m n s 3) := by
  have hz : decide (0 ≤ i ∧ i < (n : Int)) = true := by simp; omega
  go_enter Tryz.func79, Tryz.ntmps79
  go_wp2_with (first
    | (go_at_call 62; refine (dead_any hd).mono ?_; rw [hdead.out]; rintro e w' ⟨rfl, rfl⟩)
    | (go_at_call 63; refine (has_any _ hd).mono ?_; rw [hz]; rintro e w' ⟨rfl, rfl⟩))
  go_ret
  exact ⟨rfl, hd.out, Kept.refl _ _⟩
theorem write_burnt (i : Int) (A : Option Addr) (k cb : Nat) (hi1 : 0 ≤ i) (hi2 : i < (n : Int)) (hk : k ≤ 64) (hd : Hid (Dev w g c m n s)) (hdead : Hid (s.dead = false)) (hlast : Hid (s.lasts = false)) :
    Calls Tryz.prog 79 #[.pointer (some ⟨g, 0, none⟩), .int .i64 i, .slice A k cb] w (WriteDid w g c m n s.burnt 1) := by
  have hz : decide (0 ≤ i ∧ i < (n : Int)) = true := by simp; omega
  go_enter Tryz.func79, Tryz.ntmps79
  go_wp2_with (first
    | (go_at_call 62; refine (dead_any hd).mono ?_; rw [hdead.out]; rintro e w' ⟨rfl, rfl⟩)
    | (go_at_call 63; refine (has_any _ hd).mono ?_; rw [hz]; rintro e w' ⟨rfl, rfl⟩)
    | (go_at_call 82; refine (burn_any hd).mono ?_; rw [hlast.out]; rintro e w1 ⟨rfl, hd1, hk1⟩))
  go_ret
  exact ⟨rfl, hd1, hk1.mono fun k _ e => .inl e⟩
theorem write_any (i : Int) (A : Option Addr) (B k cb : Nat) (b : List Nat) (hkm : k ≤ 9223372036854775807) (hl : Hid (b.length = k)) (hb : Hid (Bs w B A b)) (hd : Hid (Dev w g c m n s)) (hwr : s.wr < 4611686018427387904) :
    Calls Tryz.prog 79 #[.pointer (some ⟨g, 0, none⟩), .int .i64 i, .slice A k cb] w (WriteDid w g c m n (s.write n i b) (s.writeErr n i b)) := by
  unfold Flash.write Flash.writeErr
  by_cases h1 : s.dead = true
  · rw [if_pos (.inl h1), if_pos h1]
    exact write_dead i _ hd h1
  have h1' : s.dead = false := by simpa using h1
  by_cases h2 : i < 0 ∨ (n : Int) ≤ i
  · rw [if_pos (by rcases h2 with h2 | h2; exact .inr (.inl h2); exact .inr (.inr (.inl h2))), if_neg h1, if_pos h2]
    exact write_range i _ h2 hd h1'
  by_cases h3 : 64 < b.length
  · rw [if_pos (.inr (.inr (.inr h3))), if_neg h1, if_neg h2, if_pos h3]
    have := hl.out
    exact write_long i A k cb (by omega) (by omega) (by omega) hkm hd h1'
  have h0 : ¬ (s.dead = true ∨ i < 0 ∨ (n : Int) ≤ i ∨ 64 < b.length) := by
    rintro (h | h | h | h)
    · exact h1 h
    · exact h2 (.inl h)
    · exact h2 (.inr h)
    · exact h3 h
  rw [if_neg h0, if_neg h1, if_neg h2, if_neg h3]
  have hk : k ≤ 64 := by have := hl.out; omega
  obtain ⟨j, rfl⟩ : ∃ j : Nat, i = (j : Int) := ⟨i.toNat, by omega⟩
  by_cases h4 : s.lasts = true
  · rw [if_pos h4, if_pos h4, Int.toNat_natCast]
    cases ho : s.old j with
    | none => exact write_new A B k cb b j (by omega) hk hl hb hd h1' h4 hwr ho
    | some l => exact write_again A B k cb b j (by omega) hk hl hb hd h1' h4 hwr l ho
  · rw [if_neg h4, if_neg h4]
    exact write_burnt _ A k cb (by omega) (by omega) hk hd h1' (Lib.hid (by simpa using h4))
end
theorem write_nil (i : Int) (v : Value) (w : World) :
    Calls Tryz.prog 79 #[.pointer none, .int .i64 i, v] w fun e w' => e = .returned (.int .i64 1) ∧ w = w' := by
  go_enter Tryz.func79, Tryz.ntmps79
  go_wp2_with (go_at_call 62; refine (dead_nil _).mono ?_; rintro e w' ⟨rfl, rfl⟩)
  go_ret
  exact ⟨rfl, rfl⟩
theorem crash_nil (a b : Value) (w : World) :
    Calls Tryz.prog 20 #[.pointer none, a, b] w fun e w' => e = .returned (.pointer none) ∧ w = w' := by
  go_enter Tryz.func20, Tryz.ntmps20
  go_wp2
  go_ret
  exact ⟨rfl, rfl⟩
end Go.Proofs.YtledfdpabmlecaaGreatDoor
end
end
section
section
set_option maxRecDepth 100000
namespace Go.Proofs.YtledfdpabmlecaaGreatDoor
open Go.RowKit Go.Maps

/-- Bools, and pairs of integers, read through a slice. -/
def Bls (w : World) (B : Nat) (A : Option Addr) (l : List Bool) : Prop := ∀ k, k < l.length → ∃ ad, A = some ad ∧ ad.block < B ∧ w.cell? (ad.add k) = some (.bool (l.getD k false))
def Trs (w : World) (B : Nat) (A : Option Addr) (l : List (Int × Int)) : Prop := ∀ k, k < l.length → ∃ ad, A = some ad ∧ ad.block < B ∧ w.cell? (ad.add (k * 2)) = some (.int .i64 (l.getD k (0, 0)).1) ∧ w.cell? (ad.add (k * 2 + 1)) = some (.int .i64 (l.getD k (0, 0)).2)
theorem Bls.below {B C : Nat} {w w' : World} {A : Option Addr} {l : List Bool} (h : Bls w B A l) (hb : Below C w w') (hB : B ≤ C) : Bls w' B A l := fun k hk => by
  obtain ⟨ad, h2, h3, h4⟩ := h k hk
  exact ⟨ad, h2, h3, (hb.cell (by rw [add_block]; omega)).trans h4⟩
theorem Trs.below {B C : Nat} {w w' : World} {A : Option Addr} {l : List (Int × Int)} (h : Trs w B A l) (hb : Below C w w') (hB : B ≤ C) : Trs w' B A l := fun k hk => by
  obtain ⟨ad, h2, h3, h4, h5⟩ := h k hk
  exact ⟨ad, h2, h3, (hb.cell (by rw [add_block]; omega)).trans h4, (hb.cell (by rw [add_block]; omega)).trans h5⟩
/-- A row of integers in a block of its own. -/
theorem Bls.up {w : World} {B C : Nat} {A : Option Addr} {l : List Bool} (h : Bls w B A l) (hB : B ≤ C) : Bls w C A l := fun k hk => by
  obtain ⟨ad, h2, h3, h4⟩ := h k hk
  exact ⟨ad, h2, by omega, h4⟩
theorem Trs.up {w : World} {B C : Nat} {A : Option Addr} {l : List (Int × Int)} (h : Trs w B A l) (hB : B ≤ C) : Trs w C A l := fun k hk => by
  obtain ⟨ad, h2, h3, h4⟩ := h k hk
  exact ⟨ad, h2, by omega, h4⟩
def ivals (L : List Nat) : List Value := L.map fun x => .int .i64 ((x : Nat) : Int)
def IRow (w : World) (G : Nat) (L : List Nat) : Prop := w.heap[G]? = some (.cells (ivals L).toArray 3 (0, 0))
theorem ivals_at {L : List Nat} {j : Nat} (hj : j < L.length) : (ivals L)[j]? = some (.int .i64 ((L.getD j 0 : Nat) : Int)) := by
  unfold ivals
  rw [List.getElem?_map, List.getElem?_eq_getElem hj, List.getD_eq_getElem?_getD, List.getElem?_eq_getElem hj]; rfl
theorem IRow.cell {w : World} {G : Nat} {L : List Nat} (h : IRow w G L) {j : Nat} (hj : j < L.length) : w.cell? ⟨G, j, none⟩ = some (.int .i64 ((L.getD j 0 : Nat) : Int)) ∧ w.frozen? ⟨G, j, none⟩ = false := by
  refine ⟨?_, frozen_of_row w G j _ _ h⟩
  rw [cell_of_row w G j _ _ _ h, List.getElem?_toArray]
  exact ivals_at hj
theorem IRow.set {w : World} {G : Nat} {L : List Nat} (h : IRow w G L) (j x : Nat) : IRow (w.setCell ⟨G, j, none⟩ (.int .i64 (x : Int))) G (L.set j x) := by
  unfold IRow
  rw [heap_setCell_same w G j _ _ _ h]
  simp [ivals, List.map_set]
/-! ### how many bytes are kept -/
def tearHits (j : Nat) (t : Int × Int) : Bool := t.1 == (j : Int) && (decide (1 ≤ t.2) && decide (t.2 < 64))
def keptBy (keep : List Bool) (T : List (Int × Int)) (j : Nat) : Nat :=
  match T.find? (tearHits j) with
  | some t => t.2.toNat
  | none => if keep.getD j false = true then 64 else 0
theorem keptBy_le (keep : List Bool) (T : List (Int × Int)) (j : Nat) : keptBy keep T j ≤ 64 := by
  unfold keptBy
  cases h : T.find? (tearHits j) with
  | none => dsimp only; split <;> omega
  | some t =>
    have := List.find?_some h
    simp [tearHits] at this
    dsimp only
    omega
theorem take_nextT {α : Type} (l : List α) (k : Nat) (hk : k < l.length) : l.take (k + 1) = l.take k ++ [l[k]] := by
  rw [List.take_succ_eq_append_getElem hk]
/-- One tear more. -/
theorem keptBy_next (keep : List Bool) (T : List (Int × Int)) (t : Int × Int) (j : Nat) :
    keptBy keep (T ++ [t]) j = if tearHits j t = true ∧ ¬ (1 ≤ keptBy keep T j ∧ keptBy keep T j < 64) then t.2.toNat else keptBy keep T j := by
  unfold keptBy
  rw [List.find?_append]
  cases h : T.find? (tearHits j) with
  | some t' =>
    have := List.find?_some h
    simp [tearHits] at this
    simp only [Option.some_or]
    rw [if_neg (by omega)]
  | none =>
    simp only [Option.none_or, List.find?_cons, List.find?_nil]
    have hx : ∀ x, x = (if keep.getD j false = true then 64 else 0) → ¬ (1 ≤ x ∧ x < 64) := fun x hx => by split at hx <;> omega
    by_cases h2 : tearHits j t = true
    · simp only [h2]
      rw [if_pos ⟨trivial, hx _ rfl⟩]
    · have h3 : tearHits j t = false := by simpa using h2
      simp only [h3, Bool.false_eq_true, false_and, if_false]
def Survived (w : World) (d : Nat) (keep : List Bool) (T : List (Int × Int)) (e : Ending) (w' : World) : Prop :=
  ∃ (G : Nat) (L : List Nat), e = .returned (.slice (some ⟨G, 0, none⟩) d d) ∧ w.heap.size ≤ G ∧ IRow w' G L ∧ L.length = d ∧ (∀ j, j < d → L.getD j 0 = keptBy keep T j) ∧ Below w.heap.size w w'
theorem info_int : (Tryz.prog.info? 3).map (fun i => (i.zero, i.size, i.bytes)) = some (some (.int .i64 0), 1, 8) := by kernel_rfl
theorem made_ivals (k : Nat) : (madeCells (Value.cells (.int .i64 0)) (k * 1)).toList = ivals (List.replicate k 0) := by
  simp only [madeCells, ivals, Value.cells, List.map_replicate]
  apply List.ext_getElem
  · simp
  · intro i h1 h2
    simp [Nat.mod_one]
theorem getD_set {L : List Nat} {j x k : Nat} (hj : j < L.length) : (L.set j x).getD k 0 = if k = j then x else L.getD k 0 := by
  rw [List.getD_eq_getElem?_getD, List.getD_eq_getElem?_getD, List.getElem?_set]
  by_cases e : j = k
  · subst e; simp [hj]
  · rw [if_neg e, if_neg (fun h => e h.symm)]
/-- What the first loop has laid. -/
def Laid1 (keep : List Bool) (d k : Nat) (L : List Nat) : Prop := L.length = d ∧ ∀ j, j < d → L.getD j 0 = if j < k ∧ keep.getD j false = true then 64 else 0
theorem laid1_start (keep : List Bool) (d : Nat) : Laid1 keep d 0 (List.replicate d 0) := by
  refine ⟨List.length_replicate, fun j hj => ?_⟩
  rw [if_neg (by omega), List.getD_eq_getElem?_getD, List.getElem?_replicate]
  split <;> rfl
theorem laid1_yes {keep : List Bool} {d k : Nat} {L : List Nat} (h : Laid1 keep d k L) (hk : k < d) (hb : keep.getD k false = true) : Laid1 keep d (k + 1) (L.set k 64) := by
  refine ⟨by rw [List.length_set]; exact h.1, fun j hj => ?_⟩
  rw [getD_set (by rw [h.1]; exact hk)]
  by_cases e : j = k
  · subst e; rw [if_pos rfl, if_pos ⟨by omega, hb⟩]
  · rw [if_neg e, h.2 j hj]
    by_cases e2 : j < k ∧ keep.getD j false = true
    · rw [if_pos e2, if_pos ⟨by omega, e2.2⟩]
    · rw [if_neg e2, if_neg (fun h => e2 ⟨by omega, h.2⟩)]
theorem laid1_no {keep : List Bool} {d k : Nat} {L : List Nat} (h : Laid1 keep d k L) (hb : keep.getD k false = false) : Laid1 keep d (k + 1) L := by
  refine ⟨h.1, fun j hj => ?_⟩
  rw [h.2 j hj]
  by_cases e2 : j < k ∧ keep.getD j false = true
  · rw [if_pos e2, if_pos ⟨by omega, e2.2⟩]
  · rw [if_neg e2, if_neg (fun h => ?_)]
    by_cases e : j = k
    · subst e; rw [hb] at h; cases h.2
    · exact e2 ⟨by omega, h.2⟩
/-- .. and the second. -/
def Laid2 (keep : List Bool) (T : List (Int × Int)) (d k : Nat) (L : List Nat) : Prop := L.length = d ∧ ∀ j, j < d → L.getD j 0 = keptBy keep (T.take k) j
theorem laid2_start {keep : List Bool} {T : List (Int × Int)} {d k : Nat} {L : List Nat} (h : Laid1 keep d k L) (hk : k = d ∨ keep.length ≤ k) : Laid2 keep T d 0 L := by
  refine ⟨h.1, fun j hj => ?_⟩
  rw [h.2 j hj]
  show _ = if keep.getD j false = true then 64 else 0
  by_cases e : keep.getD j false = true
  · have hjk : j < k := by
      rcases hk with h | h
      · omega
      · rcases Nat.lt_or_ge j keep.length with h2 | h2
        · omega
        · rw [List.getD_eq_getElem?_getD, List.getElem?_eq_none h2] at e; cases e
    rw [if_pos e, if_pos ⟨hjk, e⟩]
  · rw [if_neg e, if_neg (fun h => e h.2)]
theorem laid2_set {keep : List Bool} {T : List (Int × Int)} {d k K N : Nat} {L : List Nat} {t : Int × Int} (h : Laid2 keep T d k L) (hk : k < T.length) (ht : T.getD k (0, 0) = t) (h1 : t.1 = (K : Int)) (h2 : t.2 = (N : Int)) (hK : K < d) (hN1 : 1 ≤ N) (hN2 : N < 64)
    (hL : ¬ (1 ≤ L.getD K 0 ∧ L.getD K 0 < 64)) : Laid2 keep T d (k + 1) (L.set K N) := by
  have e : T[k] = t := by rw [List.getD_eq_getElem?_getD, List.getElem?_eq_getElem hk] at ht; exact ht
  refine ⟨by rw [List.length_set]; exact h.1, fun j hj => ?_⟩
  rw [getD_set (by rw [h.1]; exact hK), take_nextT T k hk, e, keptBy_next]
  by_cases e3 : j = K
  · subst e3
    rw [if_pos rfl, if_pos ⟨by simp [tearHits, h1, h2]; omega, by rw [← h.2 j hj]; exact hL⟩, h2, Int.toNat_natCast]
  · rw [if_neg e3, if_neg (fun h' => e3 ?_), h.2 j hj]
    have := h'.1
    simp [tearHits, h1] at this
    have := this.1
    omega
theorem laid2_no {keep : List Bool} {T : List (Int × Int)} {d k : Nat} {L : List Nat} {t : Int × Int} (h : Laid2 keep T d k L) (hk : k < T.length) (ht : T.getD k (0, 0) = t)
    (hn : ∀ j, j < d → tearHits j t = true → 1 ≤ L.getD j 0 ∧ L.getD j 0 < 64) : Laid2 keep T d (k + 1) L := by
  have e : T[k] = t := by rw [List.getD_eq_getElem?_getD, List.getElem?_eq_getElem hk] at ht; exact ht
  refine ⟨h.1, fun j hj => ?_⟩
  rw [take_nextT T k hk, e, keptBy_next, if_neg (fun h' => h'.2 (by rw [← h.2 j hj]; exact hn j hj h'.1)), h.2 j hj]
end Go.Proofs.YtledfdpabmlecaaGreatDoor
end
section
set_option maxRecDepth 100000
namespace Go.Proofs.YtledfdpabmlecaaGreatDoor
open Go.RowKit Go.Maps
set_option maxHeartbeats 1000000 in
theorem survivors_any (d : Nat) (hd : d ≤ 1048576) (Ak At : Option Addr) (nk ck nt ct : Nat) (keep : List Bool) (T : List (Int × Int)) (w : World)
    (hnt : nt ≤ 9223372036854775807) (hlk : Hid (keep.length = nk)) (hlt : Hid (T.length = nt)) (hbk : Hid (Bls w w.heap.size Ak keep)) (hbt : Hid (Trs w w.heap.size At T)) :
    Calls Tryz.prog 51 #[.int .i64 (d : Int), .slice Ak nk ck, .slice At nt ct] w (Survived w d keep T) := by
  obtain ⟨i0, hi0, hz0, hz1, hz2⟩ := info_parts info_int
  have I0 := Lib.hid (And.intro hi0 (And.intro hz0 (And.intro hz1 hz2))); clear hi0 hz0 hz1 hz2
  have B0 : Hid (i0.bytes * d ≤ 281474976710656 ∧ d ≤ maxLen) := by rw [I0.out.2.2.2]; exact ⟨by omega, by unfold maxLen; omega⟩
  obtain ⟨mn, hmd, hmk, hme, hmin⟩ : ∃ mn : Nat, mn ≤ d ∧ mn ≤ nk ∧ Hid (mn = d ∨ keep.length ≤ mn) ∧ Hid ((if (nk : Int) < (d : Int) then (nk : Int) else (d : Int)) = (mn : Int)) := by
    by_cases h : (nk : Int) < (d : Int)
    · exact ⟨nk, by omega, Nat.le_refl _, .inr (by rw [hlk.out]; exact Nat.le_refl _), if_pos h⟩
    · exact ⟨d, Nat.le_refl _, by omega, .inl rfl, if_neg h⟩
  go_enter Tryz.func51, Tryz.ntmps51
  go_wp2_with (first
    | (with_reducible refine wpList_min2 rfl (.tmp 13) (.tmp 15) _ rfl .i64 _ _ _ rfl rfl hmin.out ?_)
    | (at_make; refine wpList_make_full w rfl _ _ 77 rfl w.heap.size 3 i0 (.int .i64 0) 1 Tryz.underlying77 I0.out.1 I0.out.2.1 I0.out.2.2.1 .i64 .i64 _ _ d rfl rfl rfl rfl B0.out.1 B0.out.2 (Nat.le_refl _) ?_; intro w1 hown hg1))
  have HR1 : Hid (IRow w1 w.heap.size (List.replicate d 0) ∧ Below w.heap.size w w1) := by
    refine ⟨?_, (Below.refl _ w).grown hg1 (Nat.le_refl _) (fun k e => by cases e)⟩
    rw [made_ivals] at hown
    rcases hown.2 with ⟨h, _⟩ | ⟨g, cap, cur, e, _, hgg, _, _, hsz, htk⟩
    · cases h
    · injection e with e1 e2 e3
      injection e1 with e1
      injection e1 with e1
      subst e1
      unfold IRow
      rw [hgg]
      have : cur.toList = ivals (List.replicate d 0) := by rw [← htk, List.take_of_length_le (by rw [Array.length_toList]; omega)]
      rw [← this]
  clear hown hg1
  clear hmin
  go_loopw [17] (fun iv wr => ∃ (k : Nat) (L : List Nat), k ≤ mn ∧ iv = .int .i64 (k : Int) ∧ Hid (IRow wr w.heap.size L) ∧ Hid (Laid1 keep d k L) ∧ Hid (Below w.heap.size w wr)) (fun iv _ => mn - (RowKit.intOf iv).toNat)
  case atStart => exact ⟨0, _, Nat.zero_le _, rfl, HR1.out.1, laid1_start keep d, HR1.out.2⟩
  case round =>
    obtain ⟨k, L, hk, rfl, hrow, hlaid, hbel⟩ := hrel
    by_cases hkm : k < mn
    · obtain ⟨ad, rfl, hadb, hcell⟩ := hbk.out.below hbel.out (Nat.le_refl _) k (by rw [hlk.out]; omega)
      obtain ⟨hc7, hf7⟩ := hrow.out.cell (j := k) (by rw [hlaid.out.1]; omega)
      cases hb : keep.getD k false with
      | true =>
        rw [hb] at hcell
        have HB1 := Lib.hid hb; clear hb
        go_wp2
        go_roundw
        case rel => exact ⟨k + 1, L.set k 64, by omega, by go_num, hrow.out.set k 64, laid1_yes hlaid.out (by omega) HB1.out, hbel.out.setCell (Nat.le_refl _) _⟩
        case measure => simp [RowKit.intOf]; omega
      | false =>
        rw [hb] at hcell
        have HB1 := Lib.hid hb; clear hb
        go_wp2
        go_roundw
        case rel => exact ⟨k + 1, L, by omega, by go_num, hrow, laid1_no hlaid.out HB1.out, hbel⟩
        case measure => simp [RowKit.intOf]; omega
    · go_wp2
      obtain rfl : k = mn := by omega
      have HL2 : Hid (Laid2 keep T d 0 L) := laid2_start hlaid.out hme.out
      clear hkm hlaid
      go_loopw [30] (fun iv wr2 => ∃ (k2 : Nat) (L2 : List Nat), k2 ≤ nt ∧ iv = .int .i64 (k2 : Int) ∧ Hid (IRow wr2 w.heap.size L2) ∧ Hid (Laid2 keep T d k2 L2) ∧ Hid (Below w.heap.size w wr2)) (fun iv _ => nt - (RowKit.intOf iv).toNat)
      case atStart => exact ⟨0, L, Nat.zero_le _, rfl, hrow, HL2, hbel⟩
      case round =>
        clear hrow HL2 hbel
        obtain ⟨k2, L2, hk2, rfl, hrow, hlaid, hbel⟩ := hrel
        by_cases hlt2 : k2 < nt
        · obtain ⟨ad, rfl, hadb, hc0, hc1⟩ := hbt.out.below hbel.out (Nat.le_refl _) k2 (by rw [hlt.out]; omega)
          rw [next_field] at hc1
          generalize ht : T.getD k2 (0, 0) = t at hc0 hc1
          have HT := Lib.hid ht; clear ht
          obtain ⟨K, N⟩ := t
          have hG : w.heap.size < wr.heap.size := (Array.getElem?_eq_some_iff.1 hrow.out).1
          have HAL : Hid (∀ o, IRow (wr.alloc o) w.heap.size L2 ∧ Below w.heap.size w (wr.alloc o)) := fun o => ⟨(Below.heap_alloc wr o _ hG).trans hrow.out, hbel.out.alloc hbel.out.size o⟩
          have HL : Hid (L2.length = d) := hlaid.out.1
          by_cases a1 : 0 ≤ K
          · by_cases a2 : K < (d : Int)
            · obtain ⟨j, rfl⟩ : ∃ j : Nat, K = (j : Int) := ⟨K.toNat, by omega⟩
              have hj : j < d := by omega
              obtain ⟨hc7, hf7⟩ := hrow.out.cell (j := j) (by rw [HL.out]; exact hj)
              by_cases a3 : 1 ≤ N ∧ N < 64
              · obtain ⟨a3, a4⟩ := a3
                obtain ⟨N, rfl⟩ : ∃ n : Nat, N = (n : Int) := ⟨N.toNat, by omega⟩
                generalize hx : L2.getD j 0 = x at hc7
                have HX := Lib.hid hx; clear hx
                by_cases a5 : 1 ≤ x ∧ x < 64
                · obtain ⟨a5, a6⟩ := a5
                  go_wp2_with (go_at_call 86; refine (ispart_yes _ (by omega) (by omega) _).mono ?_; rintro e w' ⟨rfl, rfl⟩)
                  go_roundw
                  case rel =>
                    refine ⟨k2 + 1, L2, by omega, by go_num, (HAL.out _).1, laid2_no hlaid.out (by rw [hlt.out]; omega) HT.out (fun i _ h => ?_), (HAL.out _).2⟩
                    have hi : (j : Int) = (i : Int) := by simp [tearHits] at h; exact h.1
                    obtain rfl : i = j := by omega
                    rw [HX.out]; exact ⟨a5, a6⟩
                  case measure => simp [RowKit.intOf]; omega
                · have a6 : (x : Int) < 1 ∨ 64 ≤ (x : Int) := by omega
                  go_wp2_with (first
                    | (go_at_call 86; refine (ispart_yes (N : Int) (by omega) (by omega) _).mono ?_; rintro e w' ⟨rfl, rfl⟩)
                    | (go_at_call 86; refine (ispart_no (x : Int) a6 _).mono ?_; rintro e w' ⟨rfl, rfl⟩))
                  go_roundw
                  case rel => exact ⟨k2 + 1, L2.set j N, by omega, by go_num, (Below.heap_alloc _ _ _ (by simpa [World.setCell] using hG)).trans (hrow.out.set j N), laid2_set hlaid.out (by rw [hlt.out]; omega) HT.out rfl rfl hj (by omega) (by omega) (by rw [HX.out]; exact a5), (hbel.out.setCell (Nat.le_refl _) _).alloc (by simpa [World.setCell] using Nat.le_of_lt hG) _⟩
                  case measure => simp [RowKit.intOf]; omega
              · have a4 : N < 1 ∨ 64 ≤ N := by omega
                have A3 := Lib.hid a3; clear a3
                go_wp2_with (go_at_call 86; refine (ispart_no _ a4 _).mono ?_; rintro e w' ⟨rfl, rfl⟩)
                go_roundw
                case rel => exact ⟨k2 + 1, L2, by omega, by go_num, (HAL.out _).1, laid2_no hlaid.out (by rw [hlt.out]; omega) HT.out (fun i _ h => absurd h (by simp [tearHits]; omega)), (HAL.out _).2⟩
                case measure => simp [RowKit.intOf]; omega
            · have a3 : decide (K < (d : Int)) = false := by simpa using a2
              go_wp2
              go_roundw
              case rel => exact ⟨k2 + 1, L2, by omega, by go_num, (HAL.out _).1, laid2_no hlaid.out (by rw [hlt.out]; omega) HT.out (fun i _ h => absurd h (by simp [tearHits]; omega)), (HAL.out _).2⟩
              case measure => simp [RowKit.intOf]; omega
          · have a3 : decide (0 ≤ K) = false := by simpa using a1
            go_wp2
            go_roundw
            case rel => exact ⟨k2 + 1, L2, by omega, by go_num, (HAL.out _).1, laid2_no hlaid.out (by rw [hlt.out]; omega) HT.out (fun i _ h => absurd h (by simp [tearHits]; omega)), (HAL.out _).2⟩
            case measure => simp [RowKit.intOf]; omega
        · go_wp2
          go_ret
          obtain rfl : k2 = nt := by omega
          refine ⟨_, L2, rfl, Nat.le_refl _, hrow.out, hlaid.out.1, fun j hj => ?_, hbel.out⟩
          rw [hlaid.out.2 j hj, List.take_of_length_le (by rw [hlt.out]; exact Nat.le_refl _)]
end Go.Proofs.YtledfdpabmlecaaGreatDoor
end
section
namespace Go.Proofs.YtledfdpabmlecaaGreatDoor
open Go.RowKit Go.Maps

theorem dirty_succ (n : Nat) (old : Nat → Option (List Nat)) : dirtyList (n + 1) old = dirtyList n old ++ (if (old n).isSome = true then [n] else []) := by
  unfold dirtyList
  rw [List.range_succ, List.filter_append]
  congr 1
  by_cases h : (old n).isSome = true <;> simp [h]
/-- The k-th dirty sector has k dirty sectors before it. -/
theorem dirty_rank (old : Nat → Option (List Nat)) : ∀ (n k : Nat), k < (dirtyList n old).length → (dirtyList n old).getD k 0 < n ∧ (old ((dirtyList n old).getD k 0)).isSome = true ∧ dirtyCount ((dirtyList n old).getD k 0) old = k
  | 0, k, h => by simp [dirtyList] at h
  | n + 1, k, h => by
    rw [dirty_succ] at h ⊢
    by_cases hk : k < (dirtyList n old).length
    · have e : (dirtyList n old ++ (if (old n).isSome = true then [n] else [])).getD k 0 = (dirtyList n old).getD k 0 := by
        rw [List.getD_eq_getElem?_getD, List.getD_eq_getElem?_getD, List.getElem?_append_left hk]
      rw [e]
      obtain ⟨h1, h2, h3⟩ := dirty_rank old n k hk
      exact ⟨by omega, h2, h3⟩
    · by_cases hs : (old n).isSome = true
      · rw [if_pos hs] at h ⊢
        rw [List.length_append, List.length_singleton] at h
        have hk2 : k = (dirtyList n old).length := by omega
        have e : (dirtyList n old ++ [n]).getD k 0 = n := by
          rw [List.getD_eq_getElem?_getD, List.getElem?_append_right (by omega), hk2, Nat.sub_self]; rfl
        rw [e]
        exact ⟨by omega, hs, hk2.symm⟩
      · rw [if_neg hs, List.append_nil] at h
        exact absurd h hk
theorem dirty_has (old : Nat → Option (List Nat)) (n i : Nat) (hi : i < n) (ho : (old i).isSome = true) : dirtyCount i old < (dirtyList n old).length ∧ (dirtyList n old).getD (dirtyCount i old) 0 = i := by
  induction n with
  | zero => omega
  | succ n ih =>
    rw [dirty_succ]
    by_cases e : i = n
    · subst e
      rw [if_pos ho, List.length_append, List.length_singleton]
      refine ⟨by unfold dirtyCount; omega, ?_⟩
      unfold dirtyCount
      rw [List.getD_eq_getElem?_getD, List.getElem?_append_right (Nat.le_refl _), Nat.sub_self]; rfl
    · obtain ⟨h1, h2⟩ := ih (by omega)
      refine ⟨by rw [List.length_append]; omega, ?_⟩
      rw [List.getD_eq_getElem?_getD, List.getElem?_append_left h1, ← List.getD_eq_getElem?_getD]
      exact h2
/-- One byte behind a crash. -/
def crashByte (cur : List Nat) (old : Nat → Option (List Nat)) (keep : List Bool) (T : List (Int × Int)) (p : Nat) : Nat :=
  match old (p / 64) with
  | some l => if p % 64 < keptBy keep T (dirtyCount (p / 64) old) then cur.getD p 0 else l.getD (p % 64) 0
  | none => cur.getD p 0
def crashed (n : Nat) (cur : List Nat) (old : Nat → Option (List Nat)) (keep : List Bool) (T : List (Int × Int)) : List Nat := (List.range (n * 64)).map (crashByte cur old keep T)
/-- A sector behind a crash. -/
def tornSec (cur : List Nat) (i k : Nat) (l : List Nat) : List Nat := (sec cur i).take k ++ l.drop k
theorem putSec_get {l q : List Nat} {n i p : Nat} (hl : l.length = n * 64) (hi : i < n) (hq : q.length = 64) : (putSec l i q).getD p 0 = if p / 64 = i then q.getD (p % 64) 0 else l.getD p 0 := by
  unfold putSec
  rw [List.getD_eq_getElem?_getD]
  by_cases h1 : p < i * 64
  · rw [if_neg (by omega), List.append_assoc, List.getElem?_append_left (by rw [List.length_take]; omega), List.getElem?_take_of_lt h1, ← List.getD_eq_getElem?_getD]
  · by_cases h2 : p < i * 64 + 64
    · rw [if_pos (by omega), List.getElem?_append_left (by rw [List.length_append, List.length_take, hq]; omega), List.getElem?_append_right (by rw [List.length_take]; omega), List.length_take, Nat.min_eq_left (by omega), show p - i * 64 = p % 64 by omega, ← List.getD_eq_getElem?_getD]
    · rw [if_neg (by omega), List.getElem?_append_right (by rw [List.length_append, List.length_take, hq]; omega), List.length_append, List.length_take, hq, Nat.min_eq_left (by omega), List.getElem?_drop, show i * 64 + 64 + (p - (i * 64 + 64)) = p by omega, ← List.getD_eq_getElem?_getD]
theorem torn_len {cur l : List Nat} {n i k : Nat} (hc : cur.length = n * 64) (hi : i < n) (hl : l.length = 64) (hk : k ≤ 64) : (tornSec cur i k l).length = 64 := by
  unfold tornSec; rw [List.length_append, List.length_take, List.length_drop, sec_len hc hi, hl]; omega
theorem torn_get {cur l : List Nat} {n i k x : Nat} (hc : cur.length = n * 64) (hi : i < n) (hk : k ≤ 64) (hx : x < 64) : (tornSec cur i k l).getD x 0 = if x < k then cur.getD (i * 64 + x) 0 else l.getD x 0 := by
  unfold tornSec
  rw [List.getD_eq_getElem?_getD]
  by_cases h : x < k
  · rw [if_pos h, List.getElem?_append_left (by rw [List.length_take, sec_len hc hi]; omega), List.getElem?_take_of_lt h, ← List.getD_eq_getElem?_getD, sec_get hx]
  · rw [if_neg h, List.getElem?_append_right (by rw [List.length_take, sec_len hc hi]; omega), List.length_take, sec_len hc hi, Nat.min_eq_left hk, List.getElem?_drop, show k + (x - k) = x by omega, ← List.getD_eq_getElem?_getD]
theorem torn_lt {cur l : List Nat} {i k : Nat} (hc : ∀ x ∈ cur, x < 256) (hl : ∀ x ∈ l, x < 256) : ∀ x ∈ tornSec cur i k l, x < 256 := fun x hx => by
  unfold tornSec sec at hx
  rcases List.mem_append.1 hx with h | h
  · exact hc x (List.mem_of_mem_drop (List.mem_of_mem_take (List.mem_of_mem_take h)))
  · exact hl x (List.mem_of_mem_drop h)
/-- The contents when k dirty sectors have been done. -/
structure Done (n : Nat) (cur : List Nat) (old : Nat → Option (List Nat)) (keep : List Bool) (T : List (Int × Int)) (k : Nat) (l : List Nat) : Prop where
  len : l.length = n * 64
  lt : ∀ x ∈ l, x < 256
  get : ∀ p, p < n * 64 → l.getD p 0 = if (old (p / 64)).isSome = true ∧ dirtyCount (p / 64) old < k then crashByte cur old keep T p else cur.getD p 0
theorem done_start {n : Nat} {cur : List Nat} {old : Nat → Option (List Nat)} {keep : List Bool} {T : List (Int × Int)} (h1 : cur.length = n * 64) (h2 : ∀ x ∈ cur, x < 256) : Done n cur old keep T 0 cur :=
  ⟨h1, h2, fun p _ => by rw [if_neg (by omega)]⟩
theorem done_next {n : Nat} {cur : List Nat} {old : Nat → Option (List Nat)} {keep : List Bool} {T : List (Int × Int)} {k i : Nat} {l lo : List Nat} (h : Done n cur old keep T k l)
    (hk : k < (dirtyList n old).length) (hi : (dirtyList n old).getD k 0 = i) (ho : old i = some lo) (hlo : lo.length = 64 ∧ ∀ x ∈ lo, x < 256) : Done n cur old keep T (k + 1) (putSec l i (tornSec l i (keptBy keep T k) lo)) := by
  obtain ⟨r1, r2, r3⟩ := dirty_rank old n k hk
  rw [hi] at r1 r3
  have hq := torn_len h.len r1 hlo.1 (keptBy_le keep T k)
  refine ⟨putSec_len h.len r1 hq, putSec_lt h.lt (torn_lt h.lt hlo.2), fun p hp => ?_⟩
  rw [putSec_get h.len r1 hq]
  by_cases e : p / 64 = i
  · have c : (old i).isSome = true ∧ dirtyCount i old < k + 1 := ⟨by rw [ho]; rfl, by omega⟩
    have hm : p % 64 < 64 := Nat.mod_lt _ (by decide)
    have c2 : ¬ ((old i).isSome = true ∧ dirtyCount i old < k) := fun h => by omega
    rw [if_pos e, e, if_pos c, torn_get h.len r1 (keptBy_le keep T k) hm]
    have hpp : i * 64 + p % 64 = p := by omega
    rw [hpp]
    unfold crashByte
    rw [e, ho, r3]
    dsimp only
    rw [h.get p hp, e, if_neg c2]
  · rw [if_neg e, h.get p hp]
    by_cases c : (old (p / 64)).isSome = true ∧ dirtyCount (p / 64) old < k
    · rw [if_pos c, if_pos ⟨c.1, by omega⟩]
    · rw [if_neg c, if_neg (fun c' => ?_)]
      have hne : dirtyCount (p / 64) old = k := by
        rcases Nat.lt_or_ge (dirtyCount (p / 64) old) k with h | h
        · exact absurd ⟨c'.1, h⟩ c
        · omega
      have := (dirty_has old n (p / 64) (by omega) c'.1).2
      rw [hne, hi] at this
      exact e this.symm
theorem done_end {n : Nat} {cur : List Nat} {old : Nat → Option (List Nat)} {keep : List Bool} {T : List (Int × Int)} {k : Nat} {l : List Nat} (h : Done n cur old keep T k l) (hk : k = (dirtyList n old).length) : l = crashed n cur old keep T := by
  apply List.ext_getElem
  · rw [h.len]; unfold crashed; rw [List.length_map, List.length_range]
  · intro p h1 h2
    have hp : p < n * 64 := by rw [← h.len]; exact h1
    have e := h.get p hp
    rw [List.getD_eq_getElem?_getD, List.getElem?_eq_getElem h1] at e
    simp only [Option.getD_some] at e
    rw [e]
    simp only [crashed, List.getElem_map, List.getElem_range]
    by_cases c : (old (p / 64)).isSome = true
    · rw [if_pos ⟨c, by rw [hk]; exact (dirty_has old n (p / 64) (by omega) c).1⟩]
    · rw [if_neg (fun c' => c c'.1)]
      have : old (p / 64) = none := by cases h : old (p / 64) with | none => rfl | some _ => rw [h] at c; exact absurd rfl c
      unfold crashByte
      rw [this]
/-- The store of a crash's round. -/
theorem splice_torn {l lo : List Nat} {n i k : Nat} {rest : List Value} (hl : l.length = n * 64) (hi : i < n) (hk : k ≤ 64) (hlo : lo.length = 64) :
    splice (vals l ++ rest) (i * 64 + k) (vals (lo.drop k)) = vals (putSec l i (tornSec l i k lo)) ++ rest := by
  unfold splice putSec tornSec sec
  rw [vals_length, List.length_drop, hlo, List.take_append_of_le_length (by rw [vals_length]; omega), List.drop_append_of_le_length (by rw [vals_length]; omega), show i * 64 + k + (64 - k) = i * 64 + 64 by omega]
  have e : l.take (i * 64 + k) = l.take (i * 64) ++ ((l.drop (i * 64)).take 64).take k := by
    rw [List.take_take, Nat.min_eq_left hk, List.take_add]
  unfold vals
  rw [← List.map_take, e, ← List.map_drop]
  simp [List.map_append]
end Go.Proofs.YtledfdpabmlecaaGreatDoor
end
end
section
namespace Go.Proofs
open Go.Shelf
def Tryz.keysA_ren : Go.Shelf.Ren := ⟨fun | 7 => 50 | 10 => 85 | n => n, fun | 23 => 98 | 26 => 3 | 3 => 105 | 28 => 103 | 0 => 0 | 27 => 102 | 33 => 71 | 4 => 4 | n => n, fun | n => n⟩
theorem Tryz.keysA : Go.Proofs.SlLaysZI.n7 Tryz.prog Tryz.keysA_ren := {
  mixed := by kernel_rfl
  f7 := ⟨Tryz.f50.name, by decide, Tryz.func50.trans (congrArg some (by kernel_rfl))⟩
  f10 := ⟨Tryz.f85.name, by decide, Tryz.func85.trans (congrArg some (by kernel_rfl))⟩
  t0 := Tryz.underlying0
  a0 := Tryz.isAgg0
  z0 := Tryz.sizeOf0
  v0 := Tryz.zeroValue0
  t4 := Tryz.underlying4
  a4 := Tryz.isAgg4
  z4 := Tryz.sizeOf4
  v4 := Tryz.zeroValue4
  t23 := Tryz.underlying98
  a23 := Tryz.isAgg98
  z23 := Tryz.sizeOf98
  v23 := Tryz.zeroValue98
  t26 := Tryz.underlying3
  a26 := Tryz.isAgg3
  z26 := Tryz.sizeOf3
  v26 := Tryz.zeroValue3
  t27 := Tryz.underlying102
  a27 := Tryz.isAgg102
  z27 := Tryz.sizeOf102
  v27 := Tryz.zeroValue102
  t28 := Tryz.underlying103
  a28 := Tryz.isAgg103
  z28 := Tryz.sizeOf103
  v28 := Tryz.zeroValue103
  t33 := Tryz.underlying71
  a33 := Tryz.isAgg71
  z33 := Tryz.sizeOf71
  v33 := Tryz.zeroValue71 }
def Tryz.sortedA_ren : Go.Shelf.Ren := ⟨fun | 6 => 49 | 8 => 83 | 9 => 84 | 11 => 116 | 13 => 118 | 12 => 117 | 23 => 142 | 24 => 143 | 14 => 133 | 15 => 134 | 16 => 135 | 17 => 136 | 18 => 137 | 19 => 138 | 20 => 139 | 21 => 140 | 22 => 141 | 25 => 146 | 26 => 147 | 27 => 148 | 28 => 149 | 29 => 150 | 30 => 151 | 31 => 152 | n => n, fun | 26 => 3 | 28 => 103 | 24 => 77 | 0 => 0 | 3 => 3 | 37 => 89 | 48 => 155 | 50 => 121 | 4 => 4 | 40 => 175 | 39 => 174 | 45 => 180 | 5 => 5 | 9 => 9 | 51 => 183 | 55 => 187 | 57 => 189 | 58 => 190 | 33 => 71 | n => n, fun | n => n⟩
theorem Tryz.sortedA : Go.Proofs.SlLaysZI.n6 Tryz.prog Tryz.sortedA_ren := {
  mixed := by kernel_rfl
  f6 := ⟨Tryz.f49.name, by decide, Tryz.func49.trans (congrArg some (by kernel_rfl))⟩
  f8 := ⟨Tryz.f83.name, by decide, Tryz.func83.trans (congrArg some (by kernel_rfl))⟩
  f11 := ⟨Tryz.f116.name, by decide, Tryz.func116.trans (congrArg some (by kernel_rfl))⟩
  t0 := Tryz.underlying0
  a0 := Tryz.isAgg0
  z0 := Tryz.sizeOf0
  v0 := Tryz.zeroValue0
  t24 := Tryz.underlying77
  a24 := Tryz.isAgg77
  z24 := Tryz.sizeOf77
  v24 := Tryz.zeroValue77
  t26 := Tryz.underlying3
  a26 := Tryz.isAgg3
  z26 := Tryz.sizeOf3
  v26 := Tryz.zeroValue3
  t28 := Tryz.underlying103
  a28 := Tryz.isAgg103
  z28 := Tryz.sizeOf103
  v28 := Tryz.zeroValue103
  i26 := by kernel_rfl }
def Tryz.sortA_ren : Go.Shelf.Ren := ⟨fun | 189 => 84 | 125 => 118 | 257 => 117 | 128 => 142 | 129 => 143 | 294 => 133 | 295 => 134 | 296 => 135 | 297 => 136 | 298 => 137 | 299 => 138 | 216 => 139 | 300 => 140 | 301 => 141 | 328 => 146 | 329 => 147 | 330 => 148 | 331 => 149 | 332 => 150 | 215 => 151 | 343 => 152 | n => n, fun | 28 => 77 | 3 => 3 | 46 => 89 | 0 => 0 | 51 => 155 | 53 => 121 | 4 => 4 | 183 => 175 | 182 => 174 | 131 => 180 | 5 => 5 | 9 => 9 | 218 => 183 | 222 => 187 | 228 => 189 | 229 => 190 | n => n, fun | n => n⟩
theorem Tryz.sortA : Go.Proofs.Lays.n189 Tryz.prog Tryz.sortA_ren := {
  mixed := by kernel_rfl
  f125 := Tryz.func118.trans (congrArg some (by kernel_rfl))
  f128 := Tryz.func142.trans (congrArg some (by kernel_rfl))
  f129 := Tryz.func143.trans (congrArg some (by kernel_rfl))
  f189 := Tryz.func84.trans (congrArg some (by kernel_rfl))
  f215 := Tryz.func151.trans (congrArg some (by kernel_rfl))
  f216 := Tryz.func139.trans (congrArg some (by kernel_rfl))
  f257 := Tryz.func117.trans (congrArg some (by kernel_rfl))
  f294 := Tryz.func133.trans (congrArg some (by kernel_rfl))
  f295 := Tryz.func134.trans (congrArg some (by kernel_rfl))
  f296 := Tryz.func135.trans (congrArg some (by kernel_rfl))
  f297 := Tryz.func136.trans (congrArg some (by kernel_rfl))
  f298 := Tryz.func137.trans (congrArg some (by kernel_rfl))
  f299 := Tryz.func138.trans (congrArg some (by kernel_rfl))
  f300 := Tryz.func140.trans (congrArg some (by kernel_rfl))
  f301 := Tryz.func141.trans (congrArg some (by kernel_rfl))
  f328 := Tryz.func146.trans (congrArg some (by kernel_rfl))
  f329 := Tryz.func147.trans (congrArg some (by kernel_rfl))
  f330 := Tryz.func148.trans (congrArg some (by kernel_rfl))
  f331 := Tryz.func149.trans (congrArg some (by kernel_rfl))
  f332 := Tryz.func150.trans (congrArg some (by kernel_rfl))
  f343 := Tryz.func152.trans (congrArg some (by kernel_rfl))
  t0 := Tryz.underlying0
  a0 := Tryz.isAgg0
  z0 := Tryz.sizeOf0
  v0 := Tryz.zeroValue0
  t3 := Tryz.underlying3
  a3 := Tryz.isAgg3
  z3 := Tryz.sizeOf3
  v3 := Tryz.zeroValue3
  t4 := Tryz.underlying4
  a4 := Tryz.isAgg4
  z4 := Tryz.sizeOf4
  v4 := Tryz.zeroValue4
  t5 := Tryz.underlying5
  a5 := Tryz.isAgg5
  z5 := Tryz.sizeOf5
  v5 := Tryz.zeroValue5
  t9 := Tryz.underlying9
  a9 := Tryz.isAgg9
  z9 := Tryz.sizeOf9
  v9 := Tryz.zeroValue9
  t28 := Tryz.underlying77
  a28 := Tryz.isAgg77
  z28 := Tryz.sizeOf77
  v28 := Tryz.zeroValue77
  t46 := Tryz.underlying89
  a46 := Tryz.isAgg89
  z46 := Tryz.sizeOf89
  v46 := Tryz.zeroValue89
  t51 := Tryz.underlying155
  a51 := Tryz.isAgg155
  z51 := Tryz.sizeOf155
  v51 := Tryz.zeroValue155
  t53 := Tryz.underlying121
  a53 := Tryz.isAgg121
  z53 := Tryz.sizeOf121
  v53 := Tryz.zeroValue121
  t131 := Tryz.underlying180
  a131 := Tryz.isAgg180
  z131 := Tryz.sizeOf180
  v131 := Tryz.zeroValue180
  t182 := Tryz.underlying174
  a182 := Tryz.isAgg174
  z182 := Tryz.sizeOf174
  v182 := Tryz.zeroValue174
  t183 := Tryz.underlying175
  a183 := Tryz.isAgg175
  z183 := Tryz.sizeOf175
  v183 := Tryz.zeroValue175
  t218 := Tryz.underlying183
  a218 := Tryz.isAgg183
  z218 := Tryz.sizeOf183
  v218 := Tryz.zeroValue183
  t222 := Tryz.underlying187
  a222 := Tryz.isAgg187
  z222 := Tryz.sizeOf187
  v222 := Tryz.zeroValue187
  t228 := Tryz.underlying189
  a228 := Tryz.isAgg189
  z228 := Tryz.sizeOf189
  v228 := Tryz.zeroValue189
  t229 := Tryz.underlying190
  a229 := Tryz.isAgg190
  z229 := Tryz.sizeOf190
  v229 := Tryz.zeroValue190 }
open Go.RowKit Go.Maps Go.Sort in
/-- slices.Sort's two contracts at this dump, at the fence that asks nothing. -/
theorem Tryz.sortsA (m : Nat) : AnyZI.SortsIn Tryz.prog Tryz.sortedA_ren Fence.wide m :=
  ⟨fun blk off cap ss W hH hblk hsz => callsIn_wide.2 (Any.slices_Sort_int Tryz.sortA blk off cap ss W hH hblk hsz),
   fun p cap W => callsIn_wide.2 (Any.slices_Sort_int_none Tryz.sortA p cap W)⟩
open Go.RowKit Go.Maps Go.Sort in
/-- maps.Keys, at whatever map. -/
theorem Tryz.maps_Keys_int (mb : Option Nat) (W : World) : Calls Tryz.prog 50 #[.map mb] W fun e w' => e = .returned (.func (.func 85) #[] #[.pointer (some ⟨W.heap.size, 0, none⟩)]) ∧ w' = W.alloc (.cells #[.map mb] 98) :=
  (callsIn_wide (n := 5)).1 (AnyZI.keys_in Tryz.keysA Fence.wide 5 trivial rfl mb W)
open Go.RowKit Go.Maps Go.Sort in
/-- slices.Sorted at what maps.Keys handed back for a map that is not nil. -/
theorem Tryz.slices_Sorted_int {H : Type} (b nn : Nat) (D0 : DataW H) (R : Value → Option (DataW H × List MemPlace)) (w : World) (hown : w.ownsMap Tryz.prog 3 R b nn D0) (hmax : Maps.size D0 ≤ maxLen) (hbytes : Maps.size D0 * 8 ≤ 140737488355328) :
    Calls Tryz.prog 49 #[.func (.func 85) #[] #[.pointer (some ⟨w.heap.size, 0, none⟩)]] (w.alloc (.cells #[.map (some b)] 98)) fun e w' => ∃ (v : Value) (ss : List Int), e = .returned v ∧ ss.Perm (intKeys D0) ∧
      w'.ownsRow (w.alloc (.cells #[.map (some b)] 98)).heap.size 3 1 v ss.length ((ss.mergeSort (fun x y => decide (x ≤ y))).map encZ) ∧ (v = .slice none 0 0 ↔ ss = []) ∧ Below (w.alloc (.cells #[.map (some b)] 98)).heap.size (w.alloc (.cells #[.map (some b)] 98)) w' := by
  have hbl := hown.lt
  have hseq : SeqGives Fence.wide 2 Tryz.prog 85 #[.pointer (some ⟨w.heap.size, 0, none⟩)] encZ (fun ss => ss.Perm (intKeys D0)) (Maps.size D0) (w.alloc (.cells #[.map (some b)] 98)) :=
    AnyZI.keys_gives (ρ := Tryz.keysA_ren) { Tryz.keysA with } Fence.wide _ trivial rfl (by omega) w.heap.size b nn D0 _ (by simp) (by simp) (by
      obtain ⟨es, clock, hb, Ft, hs, hD⟩ := hown
      exact ⟨es, clock, (Below.heap_alloc _ _ b hbl).trans hb, Ft, hs, hD⟩)
  exact (callsIn_wide (n := 5)).1 (AnyZI.sorted_in Tryz.sortedA Fence.wide 5 trivial trivial trivial trivial rfl (by omega) (Tryz.sortsA _) (enters_of Tryz.func84 (by kernel_rfl) rfl) 85 #[.pointer (some ⟨w.heap.size, 0, none⟩)] trivial (enters_of Tryz.func85 (by kernel_rfl) rfl) _ _ hmax hbytes _ hseq)
end Go.Proofs
end
section
set_option maxRecDepth 100000
namespace Go.Proofs.YtledfdpabmlecaaGreatDoor
open Go.RowKit Go.Maps

/-- Integers read through a slice, in blocks from lo on. -/
def Its (w : World) (lo : Nat) (A : Option Addr) (l : List Nat) : Prop := ∀ k, k < l.length → ∃ ad, A = some ad ∧ lo ≤ ad.block ∧ w.cell? (ad.add k) = some (.int .i64 ((l.getD k 0 : Nat) : Int))
theorem Its.kept {S : Nat → Prop} {w w' : World} {lo : Nat} {A : Option Addr} {l : List Nat} (h : Its w lo A l) (hk : Kept S w w') (hs : ∀ k, S k → k < lo) : Its w' lo A l := fun k hl => by
  obtain ⟨ad, rfl, h3, h4⟩ := h k hl
  refine ⟨ad, rfl, h3, (World.cell?_of_block (hk.block _ (World.block_lt_of_cell? _ _ h4) ?_)).trans h4⟩
  rw [add_block]
  intro hS
  have := hs _ hS
  omega
theorem own_ints {w : World} {base : Nat} {v : Value} {k : Nat} {l : List Nat} (h : w.ownsRow base 3 1 v k (ivals l)) : ∃ A cap, v = .slice A k cap ∧ Its w base A l ∧ l.length = k := by
  have hl : l.length = k := by have := h.1; unfold ivals at this; rw [List.length_map] at this; omega
  rcases h.2 with ⟨rfl, rfl⟩ | ⟨g, cap, cur, rfl, hb, hg, hnc, hcm, hsz, htk⟩
  · exact ⟨none, 0, rfl, fun j hj => absurd hj (by omega), hl⟩
  · exact ⟨_, cap, rfl, fun j hj => ⟨_, rfl, hb, h.cells (g := g) rfl j _ (ivals_at hj)⟩, hl⟩
/-- A device, opened. -/
def DevOpen (w : World) (g c m n : Nat) (s : Flash) (rest : List Value) (D : DataW Value) : Prop :=
  w.heap[g]? = some (.cells #[.slice (some ⟨c, 0, none⟩) (n * 64) (n * 64 + rest.length), .map (some m), .int .i64 (s.wr : Int), .bool s.fused, .int .i64 s.fuse, .bool s.dead] 100 (0, 0)) ∧
    w.heap[c]? = some (.cells (vals s.cur ++ rest).toArray 5 (0, 0)) ∧
    w.ownsMap Tryz.prog 3 rawElem m (Maps.size D) D ∧ OldIs D n s.old ∧ s.cur.length = n * 64 ∧ (∀ x ∈ s.cur, x < 256) ∧
    1 ≤ n ∧ n ≤ 1048576 ∧ n * 64 + rest.length ≤ 9223372036854775807 ∧ g ≠ c ∧ (s.fused = true → 0 ≤ s.fuse ∧ s.fuse ≤ 9223372036854775807)
theorem DevOpen.shut {w : World} {g c m n : Nat} {s : Flash} {rest : List Value} {D : DataW Value} (h : DevOpen w g c m n s rest D) : Dev w g c m n s := ⟨rest, D, h⟩
theorem DevOpen.row {w w' : World} {g c m n : Nat} {s : Flash} {rest : List Value} {D : DataW Value} {cur' : List Nat} (h : DevOpen w g c m n s rest D) (hk : Kept (fun k => k = c) w w') (hc' : w'.heap[c]? = some (.cells (vals cur' ++ rest).toArray 5 (0, 0))) (hl : cur'.length = n * 64) (hb : ∀ x ∈ cur', x < 256) :
    Dev w' g c m n { s with cur := cur' } := dev_row h.shut h.1 h.2.2.1 h.2.2.2.1 h.2.2.2.2.2.2.2.2.1 hk hc' hl hb
/-- 'sector', its result written out. -/
theorem sector_exact {g c n i : Nat} {rest : List Value} {a1 a2 a3 a4 a5 : Value} {w : World} (hh : Hid (w.heap[g]? = some (.cells #[.slice (some ⟨c, 0, none⟩) (n * 64) (n * 64 + rest.length), a1, a2, a3, a4, a5] 100 (0, 0)))) (hi : i < n) (hcap : n * 64 + rest.length ≤ 9223372036854775807) :
    Calls Tryz.prog 52 #[.pointer (some ⟨g, 0, none⟩), .int .i64 (i : Int)] w fun e w' => e = .returned (.slice (some ⟨c, i * 64, none⟩) 64 (n * 64 + rest.length - i * 64)) ∧ w' = w := by
  obtain ⟨⟨c0, -⟩, -⟩ := rd6 hh.out
  have hcn : ¬ (n * 64 + rest.length = i * 64) := by omega
  go_enter Tryz.func52, Tryz.ntmps52
  go_wp2
  go_ret
  exact ⟨congrArg (fun k => Ending.returned (.slice (some ⟨c, i * 64, none⟩) k (n * 64 + rest.length - i * 64))) (by omega), rfl⟩
/-- 'm[k]' at an own map whose elements read as they stand. -/
theorem wpList_lookup_raw {H : Type} {P : Program} (w : World) {ops : Array Oper} {rest : List Oper} {o : Oper} {a : Act} {Q : Exit → Act → World → Prop}
    (hg : o.guard = none) (m x : Operand) (t : TypeId) (hop : o.op = Op.lookup t m x false) (k e : TypeId) (K : Keyed P k) (ht : P.underlying t = some (.map k e)) {R : Value → Option (DataW H × List MemPlace)}
    {z : Value} (hz : (zeroValue e).run P w = .ok z w) (zd : DataW H) (zp : List MemPlace) (hzd : R z = some (zd, zp)) (b n : Nat) (D : DataW H)
    (hm : a.eval m = .map (some b)) (hown : w.ownsMap P k R b n D) (key : Value) (kl : Lit) (hx : a.eval x = key) (hkey : keyOf P k key = some kl)
    (hK : ∀ v ps, R v = some (D.atKey kl zd, ps) → wpList P ops Q rest (a.put o.dst v) w) : wpList P ops Q (o :: rest) a w := by
  refine wpList_plain hg fun K' hK' => ?_
  obtain ⟨v, ps, hrun, hv⟩ := hown.lookup K ht hz hzd hkey
  unfold Oper.wp
  simp [execOp, hop, hm, hx, hrun, Result.andThen]
  exact hK' _ _ (hK v ps hv)
/-- 's[k:]' of an array variable. -/
theorem run_slice_arr {P : Program} {t e : TypeId} {n : Nat} (ht : P.underlying t = some (.array n e)) (hsz : (P.info? e).map (·.size) = some 1) (V k : Nat) (hk : k ≤ n) :
    ∃ A, (k < n → A = some ⟨V, k, none⟩) ∧ ∀ w, (Instr.sliceAt t (.pointer (some ⟨V, 0, none⟩)) (some (.int .i64 (k : Int))) none none).run P w = .ok (.slice A (n - k) (n - k)) w := by
  refine ⟨some (if n = k then ⟨V, 0, none⟩ else (⟨V, 0, none⟩ : Addr).add k), fun h => ?_, fun w => ?_⟩
  · rw [if_neg (by omega), Addr.add_mid, Nat.zero_add]
  · cases hq : P.info? e with
    | none => simp [hq] at hsz
    | some i =>
      have hs : i.size = 1 := by simpa [hq] using hsz
      simp [Instr.sliceAt, Instr.sureAddr, Instr.sliceBounds, Instr.sliceBound, asIntOf, run_underlying ht, sizeOf, typeInfo, hq, hs, hk, Result.andThen]
/-- What a Crash leaves. -/
def Crashed (w : World) (n : Nat) (l : List Nat) (e : Ending) (w' : World) : Prop :=
  ∃ g c m, e = .returned (.pointer (some ⟨g, 0, none⟩)) ∧ Dev w' g c m n (Flash.fresh l) ∧ w.heap.size ≤ g ∧ w.heap.size ≤ c ∧ w.heap.size ≤ m ∧ Below w.heap.size w w'
/-- What holds at the head of a crash's rounds. -/
structure Rnd (w wr : World) (g1 c1 m1 n lo : Nat) (s : Flash) (keep : List Bool) (T : List (Int × Int)) (k : Nat) (l : List Nat) (A : Option Addr) (G : Nat) (L : List Nat) : Prop where
  dev : Dev wr g1 c1 m1 n (Flash.fresh l)
  done : Done n s.cur s.old keep T k l
  its : Its wr lo A (dirtyList n s.old)
  row : IRow wr G L
  below : Below w.heap.size w wr
/-- A round's frame: new blocks, and the contents. -/
theorem Rnd.next {w wr w' : World} {g1 c1 m1 n lo : Nat} {s : Flash} {keep : List Bool} {T : List (Int × Int)} {k : Nat} {l : List Nat} {A : Option Addr} {G : Nat} {L : List Nat} (h : Rnd w wr g1 c1 m1 n lo s keep T k l A G L)
    (hk : Kept (fun j => j = c1) wr w') (hG : lo ≤ G) (hc : c1 < lo) (hw : w.heap.size ≤ c1) : Its w' lo A (dirtyList n s.old) ∧ IRow w' G L ∧ Below w.heap.size w w' := by
  have hlt : G < wr.heap.size := (Array.getElem?_eq_some_iff.1 h.row).1
  refine ⟨h.its.kept hk (fun j e => by omega), (hk.block G hlt (by omega)).trans h.row, h.below.trans ?_⟩
  exact hk.below h.below.size (fun j e => by omega)
theorem old_look_some {D : DataW Value} {n i : Nat} {old : Nat → Option (List Nat)} (h : OldIs D n old) (hi : i < n) {l : List Nat} (ho : old i = some l) {v : Value} {ps : List MemPlace} (hv : rawElem v = some (D.atKey (.int .i64 (i : Int)) (.held (oldVal (List.replicate 64 0))), ps)) :
    v = .agg (vals l).toArray := by
  have := old_look h hi hv
  rw [ho] at this
  exact this
/-- The keys of the old sectors, sorted, in a row of the call's own. -/
theorem sorted_row {w w4 : World} {n N b base : Nat} {D : DataW Value} {old : Nat → Option (List Nat)} {v : Value} {ss : List Int} (hm : w.ownsMap Tryz.prog 3 rawElem b N D) (ho : OldIs D n old) (hS : ss.Perm (intKeys D))
    (hrow : w4.ownsRow base 3 1 v ss.length ((ss.mergeSort (fun x y => decide (x ≤ y))).map encZ)) : ∃ A cap nd, v = .slice A nd cap ∧ Hid (nd = (dirtyList n old).length) ∧ Its w4 base A (dirtyList n old) := by
  have hp := (size_dirty hm ho).1
  have hlen : ss.length = (dirtyList n old).length := by
    have h1 := hS.length_eq
    have h2 := hp.length_eq
    rw [List.length_map] at h2
    omega
  rw [sorted_dirty hp hS, List.map_map] at hrow
  have e : (dirtyList n old).map (encZ ∘ fun i : Nat => (i : Int)) = ivals (dirtyList n old) := rfl
  rw [e] at hrow
  obtain ⟨A, cap, rfl, h2, h3⟩ := own_ints hrow
  exact ⟨A, cap, ss.length, rfl, hlen, h2⟩
section
variable {g c m n : Nat} {s : Flash} {w : World}
set_option maxHeartbeats 2000000 in
theorem crash_any (Ak At : Option Addr) (nk ck nt ct : Nat) (keep : List Bool) (T : List (Int × Int)) (hnt : nt ≤ 9223372036854775807) (hlk : Hid (keep.length = nk)) (hlt : Hid (T.length = nt))
    (hbk : Hid (Bls w w.heap.size Ak keep)) (hbt : Hid (Trs w w.heap.size At T)) (hd : Hid (Dev w g c m n s)) :
    Calls Tryz.prog 20 #[.pointer (some ⟨g, 0, none⟩), .slice Ak nk ck, .slice At nt ct] w (Crashed w n (crashed n s.cur s.old keep T)) := by
  have hn := hd.out.n_le
  have HCL : Hid (s.cur.length = n * 64) := hd.out.cur_len
  have HCB : Hid (Bs w w.heap.size (some ⟨c, 0, none⟩) s.cur) := hd.out.bytes
  obtain ⟨rest, D, hh, hc, hm, ho, hl, hb, hn1, hn2, hcap, hgc, hfu⟩ := hd.out
  obtain ⟨⟨f0, f1, -⟩, -⟩ := rd6 hh
  have HM := Lib.hid (And.intro hm ho)
  have HSZ : Hid (Maps.size D ≤ n) := by rw [(size_dirty hm ho).2]; exact dirty_le n s.old
  have hgl := hd.out.lt.1
  clear hh hc hm ho hl hb hfu
  go_enter Tryz.func20, Tryz.ntmps20
  go_wp2_with (first
    | (go_at_call 27; refine (clone_any _ _ _ _ _ _ (fun e => by cases e) HCL (by omega) HCB).mono ?_; rintro e w1 ⟨v1, rfl, hown1, hb1⟩
       obtain ⟨c1, rest1, rfl, hc1, hrow1, hl1, hm1⟩ := own_block hown1 (by omega)
       have HC := Lib.hid (And.intro hrow1 (And.intro hl1 (show n * 64 + rest1.length ≤ 9223372036854775807 from hm1))); clear hown1 hrow1 hl1 hm1
       have HB1 := Lib.hid hb1; clear hb1)
    | (go_at_call 26; refine (holding_any c1 n _ s.cur rest1 _ HC.out.1 rfl HCL HCB.out.lt hn1 hn2 HC.out.2.2).mono ?_; rintro e w2 ⟨g1, m1, rfl, hd2, hg1, hm1, hb2⟩
       have HB2 : Hid (Below w.heap.size w w2) := HB1.out.trans (hb2.mono HB1.out.size)
       have HD2 := Lib.hid hd2; clear hd2 hb2
       have q1 := (HB2.out.cell (p := ⟨g, 1, none⟩) hgl).trans f1)
    | (go_at_call 50; refine (Tryz.maps_Keys_int _ _).mono ?_; rintro e w3 ⟨rfl, rfl⟩)
    | (go_at_call 49; refine (Tryz.slices_Sorted_int m _ D rawElem w2 (ownsMap_block HM.out.1 (HB2.out.block m HM.out.1.lt)) (by have := HSZ.out; unfold maxLen; omega) (by have := HSZ.out; omega)).mono ?_; rintro e w4 ⟨v4, ss, rfl, hS, hrow, hnil, hb4⟩
       obtain ⟨A, capD, nd, rfl, HND, hits⟩ := sorted_row HM.out.1 HM.out.2 hS hrow
       have hnd : nd ≤ n := by rw [HND.out]; exact dirty_le n s.old
       have HB4 : Hid (Below w2.heap.size w2 w4) := ((Below.refl _ w2).alloc (Nat.le_refl _) _).trans (hb4.mono (by simp))
       have HI4 : Hid (Its w4 (w2.heap.size + 1) A (dirtyList n s.old)) := fun k hk => by
         obtain ⟨ad, e1, e2, e3⟩ := hits k hk
         exact ⟨ad, e1, by simpa using e2, e3⟩
       have HS4 : Hid (w2.heap.size + 1 ≤ w4.heap.size) := Lib.hid (by have := hb4.size; simpa using this)
       have HW4 : Hid (Below w.heap.size w w4) := HB2.out.trans (HB4.out.mono HB2.out.size)
       have HK4 : Hid (Bls w4 w4.heap.size Ak keep) := (hbk.out.below HW4.out (Nat.le_refl _)).up HW4.out.size
       have HT4 : Hid (Trs w4 w4.heap.size At T) := (hbt.out.below HW4.out (Nat.le_refl _)).up HW4.out.size
       clear hS hrow hnil hb4 hits)
    | (go_at_call 51; refine (survivors_any nd (by omega) Ak At nk ck nt ct keep T _ hnt hlk hlt HK4 HT4).mono ?_; rintro e w5 ⟨G, L, rfl, hG, hrow5, hLl, hLg, hb5⟩
       have HR5 : Hid (Rnd w w5 g1 c1 m1 n (w2.heap.size + 1) s keep T 0 s.cur A G L) :=
         ⟨(HD2.out.below HB4.out HD2.out.lt.1 HD2.out.lt.2.1 HD2.out.lt.2.2).below hb5 (Nat.lt_of_lt_of_le HD2.out.lt.1 HB4.out.size) (Nat.lt_of_lt_of_le HD2.out.lt.2.1 HB4.out.size) (Nat.lt_of_lt_of_le HD2.out.lt.2.2 HB4.out.size),
          done_start HCL.out HCB.out.lt, fun k hk => by
            obtain ⟨ad, e1, e2, e3⟩ := HI4.out k hk
            exact ⟨ad, e1, e2, (World.cell?_of_block (hb5.block _ (World.block_lt_of_cell? _ _ e3))).trans e3⟩,
          hrow5, HW4.out.trans (hb5.mono HW4.out.size)⟩
       have HLG : Hid (w2.heap.size + 1 ≤ G ∧ L.length = nd ∧ (∀ j, j < nd → L.getD j 0 = keptBy keep T j) ∧ c1 < w2.heap.size + 1 ∧ w.heap.size ≤ c1) := ⟨Nat.le_trans HS4.out hG, hLl, hLg, Nat.lt_succ_of_lt HD2.out.lt.2.1, by assumption⟩
       clear hrow5 hG hLl hLg hb5))
  clear HK4 HT4 HI4
  go_loopw [34] (fun iv wr => ∃ (k : Nat) (l : List Nat), k ≤ nd ∧ iv = .int .i64 (k : Int) ∧ Hid (Rnd w wr g1 c1 m1 n (w2.heap.size + 1) s keep T k l A G L)) (fun iv _ => nd - (RowKit.intOf iv).toNat)
  case atStart => exact ⟨0, s.cur, Nat.zero_le _, rfl, HR5⟩
  case round =>
    clear HR5
    obtain ⟨k, l, hk, rfl, hR⟩ := hrel
    by_cases hkn : k < nd
    · obtain ⟨adA, rfl, hloA, hcell⟩ := hR.out.its k (by rw [← HND.out]; exact hkn)
      have hrk := dirty_rank s.old n k (by rw [← HND.out]; exact hkn)
      generalize hi : (dirtyList n s.old).getD k 0 = i at hcell hrk
      obtain ⟨hin, hos, -⟩ := hrk
      obtain ⟨lo, hlo⟩ := Option.isSome_iff_exists.1 hos
      have HLO := Lib.hid (And.intro hlo (And.intro (HM.out.2.len i lo hlo) hi)); clear hlo hi hos
      have hLk := HLG.out.2.2.1 k hkn
      obtain ⟨hcL, -⟩ := hR.out.row.cell (j := k) (by rw [HLG.out.2.1]; exact hkn)
      generalize L.getD k 0 = x at hcL hLk
      have hx64 : x ≤ 64 := by rw [hLk]; exact keptBy_le keep T k
      have HX := Lib.hid hLk; clear hLk
      have q2 := (hR.out.below.cell (p := ⟨g, 1, none⟩) hgl).trans f1
      have HMr : Hid (wr.ownsMap Tryz.prog 3 rawElem m (Maps.size D) D) := ownsMap_block HM.out.1 (hR.out.below.block m HM.out.1.lt)
      have HK : Hid (keyOf Tryz.prog 3 (.int .i64 (i : Int)) = some (.int .i64 (i : Int))) := keyInt i (by omega)
      have HI : Hid ((Tryz.prog.info? 5).map (·.size) = some 1 ∧ (Tryz.prog.info? 105).map (·.size) = some (vals lo).length ∧ (vals lo).length = 64) :=
        ⟨by kernel_rfl, by rw [vals_length, HLO.out.2.1.1]; exact size64, by rw [vals_length, HLO.out.2.1.1]⟩
      go_wp2_with (first
        | (at_lookup; refine wpList_lookup_raw _ rfl _ _ 98 rfl 3 105 lawI Tryz.underlying98 (zero64 _) (.held (oldVal (List.replicate 64 0))) [] rfl m _ D rfl HMr.out _ _ rfl HK.out ?_; intro v ps hv; obtain rfl := old_look_some HM.out.2 hin HLO.out.1 hv; clear hv)
        | (with_reducible refine wpList_store_var rfl 105 (.tmp 12) (.tmp 44) rfl wr.heap.size (vals lo) rfl rfl 105 ?_ HI.out.2.1 (vals_one _) ?_
           · exact ⟨_, heap_alloc_new _ _, by rw [HI.out.2.2]; rfl⟩
           intro wa hwa hka))
      have ka : Kept (fun j => j = wr.heap.size) wr wa := (Kept.alloc wr _).trans hka
      obtain ⟨d1, d2, d3⟩ := hR.out.dev.lt
      have HRa : Hid (Rnd w wa g1 c1 m1 n (w2.heap.size + 1) s keep T k l (some adA) G L ∧ wa.heap[wr.heap.size]? = some (.cells (vals lo).toArray 105 (0, 0)) ∧ wr.heap.size ≠ c1) := by
        have k0 : Kept (fun j => j = c1) wr wa := ka.mono (fun j h e => absurd h (by omega))
        obtain ⟨r1, r2, r3⟩ := hR.out.next k0 HLG.out.1 HLG.out.2.2.2.1 HLG.out.2.2.2.2
        exact ⟨⟨hR.out.dev.kept ka (by omega) (by omega) (by omega), hR.out.done, r1, r2, r3⟩, hwa, by omega⟩
      clear hwa hka ka HMr q2 hcell hcL
      obtain ⟨hcL, -⟩ := HRa.out.1.row.cell (j := k) (by rw [HLG.out.2.1]; exact hkn)
      have hLk : L.getD k 0 = x := by rw [HLG.out.2.2.1 k hkn]; exact HX.out.symm
      rw [hLk] at hcL
      clear hLk
      obtain ⟨restr, Dr, hopen⟩ := HRa.out.1.dev
      have HV : Hid (DevOpen wa g1 c1 m1 n (Flash.fresh l) restr Dr) := hopen
      have hcapr := HV.out.2.2.2.2.2.2.2.2.1
      clear hopen
      obtain ⟨A1, hA1, hr1⟩ := run_slice_tail (P := Tryz.prog) Tryz.underlying27 HI.out.1 c1 (i * 64) 64 (n * 64 + restr.length - i * 64) x hx64 (by omega)
      obtain ⟨A2, hA2, hr2⟩ := run_slice_arr (P := Tryz.prog) Tryz.underlying105 HI.out.1 wr.heap.size x hx64
      have HA := Lib.hid (And.intro hA1 hA2); clear hA1 hA2
      refine wp_region_still_tail 13 (by kernel_rfl) (by kernel_rfl) ?_
      simp only [List.take_succ_cons, List.take_zero, List.drop_succ_cons, List.drop_zero]
      iterate 2 still_step
      still_call (sector_exact (i := i) (rest := restr) HV.out.1 hin hcapr)
      iterate 10 still_step
      refine wpStill_nil ?_
      clear hr1 hr2 hcL
      change wpList _ _ _ _ _ wa.drew
      have HRb : Hid (Rnd w wa.drew g1 c1 m1 n (w2.heap.size + 1) s keep T k l (some adA) G L ∧ wa.drew.heap[wr.heap.size]? = some (.cells (vals lo).toArray 105 (0, 0)) ∧ wr.heap.size ≠ c1) :=
        ⟨⟨HRa.out.1.dev, HRa.out.1.done, HRa.out.1.its, HRa.out.1.row, HRa.out.1.below.drew⟩, HRa.out.2.1, HRa.out.2.2⟩
      have HV2 : Hid (DevOpen wa.drew g1 c1 m1 n (Flash.fresh l) restr Dr) := HV
      generalize wa.drew = wb at HRb HV2 ⊢
      clear HRa HV hR
      have HC2 : Hid (wb.heap[c1]? = some (.cells (vals l ++ restr).toArray 5 (0, 0)) ∧ l.length = n * 64) := ⟨HV2.out.2.1, HV2.out.2.2.2.2.1⟩
      have HD : Hid ((vals (lo.drop x)).length = 64 - x ∧ (vals (lo.drop x)).length = Nat.min (64 - x) (64 - x)) := by
        have h1 := HI.out.2.2
        rw [vals_length] at h1
        constructor
        · rw [vals_length, List.length_drop, h1]
        · rw [vals_length, List.length_drop, h1]; exact (Nat.min_self _).symm
      go_wp2_with (first
        | (with_reducible refine wpList_copy_into rfl (.tmp 52) (.tmp 57) 27 27 rfl 5 Tryz.underlying27 HI.out.1 A1 A2 (64 - x) (n * 64 + restr.length - i * 64 - x) (64 - x) (64 - x) rfl rfl c1 (i * 64 + x) (vals l ++ restr) 5 HC2.out.1 (vals (lo.drop x)) HD.out.2 ?_ ?_ (vals_one _) (64 - x) HD.out.1 ?_
           · intro hp
             rw [HD.out.1] at hp
             refine ⟨HA.out.1 (by omega), _, HA.out.2 (by omega), fun j v hv => ?_⟩
             rw [add_flat, cell_of_row wb wr.heap.size (x + j) _ _ _ HRb.out.2.1, List.getElem?_toArray]
             unfold vals at hv ⊢
             rw [List.getElem?_map, List.getElem?_drop] at hv
             rw [List.getElem?_map]
             exact hv
           · rw [HD.out.1, List.length_append, vals_length, HC2.out.2]
             omega
           intro wc hwc hkc))
      have hl64 : lo.length = 64 := HLO.out.2.1.1
      have hx : x = keptBy keep T k := HX.out
      rw [splice_torn HC2.out.2 hin hx64 hl64] at hwc
      obtain ⟨r1, r2, r3⟩ := HRb.out.1.next hkc HLG.out.1 HLG.out.2.2.2.1 HLG.out.2.2.2.2
      have hdn := done_next HRb.out.1.done (by rw [← HND.out]; exact hkn) HLO.out.2.2 HLO.out.1 HLO.out.2.1
      rw [← hx] at hdn
      have hdev : Dev wc g1 c1 m1 n (Flash.fresh (putSec l i (tornSec l i x lo))) := HV2.out.row hkc hwc hdn.len hdn.lt
      go_roundw
      case rel => exact ⟨k + 1, _, by omega, by go_num, ⟨hdev, hdn, r1, r2, r3⟩⟩
      case measure => simp [RowKit.intOf]; omega
    · go_wp2
      go_ret
      obtain rfl : k = nd := by omega
      have hs1 := HB1.out.size
      have e := done_end hR.out.done HND.out
      refine ⟨g1, c1, m1, rfl, ?_, Nat.le_trans hs1 hg1, by assumption, Nat.le_trans hs1 hm1, hR.out.below⟩
      rw [← e]
      exact hR.out.dev
end
end Go.Proofs.YtledfdpabmlecaaGreatDoor
end
section
set_option maxRecDepth 100000
namespace Go.Proofs.YtledfdpabmlecaaGreatDoor
open Go.ChangeShapes Go.WideShapes Go.ChangeAt Go.RowKit
/-- A slice value that came in: nil, or with bounds. -/
def SlOk (A : Option Addr) (n cap : Nat) : Prop := (A = none → cap = 0 ∧ n = 0) ∧ n ≤ cap ∧ cap ≤ 9223372036854775807
section
variable {H : Type} {enc : TypeId × Value → H} {P : Program} {W : World}
theorem bytes_trod {t e : TypeId} {v : Value} {fuel : Nat} {x : DataW H × List MemPlace} (ht : P.underlying t = some (.slice e)) (he : P.underlying e = some (.int .u8)) (hc : P.cellsOf e = 1)
    (h : DataW.trod enc P W 0 (fun _ => true) true fuel t [v] = some x) : ∃ A n cap l, v = .slice A n cap ∧ SlOk A n cap ∧ l.length = n ∧ Bs W W.heap.size A l := by
  rcases open_ints ht he hc h with ⟨hcs, _⟩ | ⟨a, n, cap, zs, hcs, _, hl, hm, hz, _, hcell, hwz⟩
  · injection hcs with hcs
    exact ⟨none, 0, 0, [], hcs, ⟨fun _ => ⟨rfl, rfl⟩, Nat.le_refl _, by omega⟩, rfl, fun k hk => absurd hk (by simp)⟩
  · injection hcs with hcs
    have hz' : zs.length = cap := by simpa using hz
    have hlen : ((zs.take n).map Int.toNat).length = n := by rw [List.length_map, List.length_take]; omega
    refine ⟨some a, n, cap, _, hcs, ⟨(fun h => by cases h), hl, by unfold maxLen at hm; exact hm⟩, hlen, fun k hk => ?_⟩
    have hkn : k < n := by omega
    have hkz : k < zs.length := by omega
    have e2 : zs.getD k 0 = zs[k] := by rw [List.getD_eq_getElem?_getD, List.getElem?_eq_getElem hkz]; rfl
    have e1 : ((zs.take n).map Int.toNat).getD k 0 = (zs.getD k 0).toNat := by
      rw [List.getD_eq_getElem?_getD, List.getElem?_map, List.getElem?_take_of_lt hkn, e2, List.getElem?_eq_getElem hkz]; rfl
    obtain ⟨y, hy, hy2⟩ := u8_in (hwz _ (List.getElem_mem hkz))
    rw [e1, e2, hy, Int.toNat_natCast]
    have hcl := hcell k hkz
    rw [e2, hy] at hcl
    refine ⟨hy2, a, rfl, ?_, hcl⟩
    have := World.block_lt_of_cell? W _ hcl
    rwa [add_block] at this
theorem bools_trod {t e : TypeId} {v : Value} {fuel : Nat} {x : DataW H × List MemPlace} (ht : P.underlying t = some (.slice e)) (he : P.underlying e = some .bool) (hc : P.cellsOf e = 1)
    (h : DataW.trod enc P W 0 (fun _ => true) true fuel t [v] = some x) : ∃ A n cap l, v = .slice A n cap ∧ SlOk A n cap ∧ l.length = n ∧ Bls W W.heap.size A l := by
  rcases Go.Deep.open_bools ht he hc h with ⟨hcs, _⟩ | ⟨a, n, cap, B, hcs, _, hl, hm, _, hcell⟩
  · injection hcs with hcs
    exact ⟨none, 0, 0, [], hcs, ⟨fun _ => ⟨rfl, rfl⟩, Nat.le_refl _, by omega⟩, rfl, fun k hk => absurd hk (by simp)⟩
  · injection hcs with hcs
    refine ⟨some a, n, cap, (List.range n).map B, hcs, ⟨(fun h => by cases h), hl, by unfold maxLen at hm; exact hm⟩, by simp, fun k hk => ?_⟩
    have hkn : k < n := by simpa using hk
    have hcl := hcell k (by omega)
    have e : ((List.range n).map B).getD k false = B k := by
      rw [List.getD_eq_getElem?_getD, List.getElem?_map, List.getElem?_range hkn]; rfl
    rw [e]
    refine ⟨a, rfl, ?_, hcl⟩
    have := World.block_lt_of_cell? W _ hcl
    rwa [add_block] at this
theorem tears_trod {t e : TypeId} {f0 f1 : Field} {v : Value} {fuel : Nat} {x : DataW H × List MemPlace} (ht : P.underlying t = some (.slice e)) (he : P.underlying e = some (.struct #[f0, f1]))
    (ce : P.cellsOf e = 2) (o0 : f0.offset = 0) (o1 : f1.offset = 1) (c0 : P.cellsOf f0.type = 1) (c1 : P.cellsOf f1.type = 1) (k0 : P.underlying f0.type = some (.int .i64)) (k1 : P.underlying f1.type = some (.int .i64))
    (h : DataW.trod enc P W 0 (fun _ => true) true fuel t [v] = some x) : ∃ A n cap l, v = .slice A n cap ∧ SlOk A n cap ∧ l.length = n ∧ Trs W W.heap.size A l := by
  rcases Go.Deep.open_slice_pairs ht he ce o0 o1 c0 c1 h with ⟨hcs, _⟩ | ⟨a, n, cap, m, q, V0, V1, D0, D1, P0, P1, hcs, _, hl, hm, hmm, _, hx⟩
  · injection hcs with hcs
    exact ⟨none, 0, 0, [], hcs, ⟨fun _ => ⟨rfl, rfl⟩, Nat.le_refl _, by omega⟩, rfl, fun k hk => absurd hk (by simp)⟩
  · injection hcs with hcs
    simp only [if_true] at hmm
    have num : ∀ k, k < n → ∃ p : Int × Int, W.cell? (a.add (k * 2)) = some (.int .i64 p.1) ∧ W.cell? (a.add (k * 2 + 1)) = some (.int .i64 p.2) := fun k hk => by
      obtain ⟨h1, h2, h3, h4⟩ := hx k (by omega)
      obtain ⟨p, hp, _⟩ := DataW.trod_int k0 h3
      obtain ⟨q, hq, _⟩ := DataW.trod_int k1 h4
      injection hp with hp
      injection hq with hq
      exact ⟨(p, q), by rw [h1, hp], by rw [h2, hq]⟩
    refine ⟨some a, n, cap, (List.range n).map fun k => if h : k < n then Classical.choose (num k h) else (0, 0), hcs, ⟨(fun h => by cases h), hl, by unfold maxLen at hm; exact hm⟩, by simp, fun k hk => ?_⟩
    have hkn : k < n := by simpa using hk
    have e : ((List.range n).map fun k => if h : k < n then Classical.choose (num k h) else ((0, 0) : Int × Int)).getD k (0, 0) = Classical.choose (num k hkn) := by
      rw [List.getD_eq_getElem?_getD, List.getElem?_map, List.getElem?_range hkn]
      show (if h : k < n then Classical.choose (num k h) else ((0, 0) : Int × Int)) = _
      rw [dif_pos hkn]
    rw [e]
    obtain ⟨h1, h2⟩ := Classical.choose_spec (num k hkn)
    refine ⟨a, rfl, ?_, h1, h2⟩
    have := World.block_lt_of_cell? W _ h1
    rwa [add_block] at this
theorem one_field {cs : List Value} {j : Nat} (hj : j < cs.length) : (cs.drop j).take 1 = [cs[j]] := by
  rw [List.take_one, List.head?_drop, List.getElem?_eq_getElem hj]; rfl
end
/-- The call k of a law's list: two numbers, bytes, bools and tears. -/
structure OpIs (w : World) (B : Nat) (ad : Addr) (kd ix : Int) (Ab : Option Addr) (nb cb : Nat) (lb : List Nat) (Ak : Option Addr) (nk ck : Nat) (lk : List Bool) (At : Option Addr) (nt ct : Nat) (lt : List (Int × Int)) : Prop where
  blk : ad.block < B
  c0 : w.cell? (ad.add 0) = some (.int .i64 kd)
  c1 : w.cell? (ad.add 1) = some (.int .i64 ix)
  c2 : w.cell? (ad.add 2) = some (.slice Ab nb cb)
  c3 : w.cell? (ad.add 3) = some (.slice Ak nk ck)
  c4 : w.cell? (ad.add 4) = some (.slice At nt ct)
  ib : -9223372036854775808 ≤ ix ∧ ix ≤ 9223372036854775807
  sb : SlOk Ab nb cb
  lb_ : lb.length = nb
  bs : Bs w B Ab lb
  sk : SlOk Ak nk ck
  lk_ : lk.length = nk
  bls : Bls w B Ak lk
  st : SlOk At nt ct
  lt_ : lt.length = nt
  trs : Trs w B At lt
/-- All calls of a law's list. -/
def OpsAt (w : World) (B : Nat) (A : Option Addr) (n : Nat) : Prop :=
  ∀ k, k < n → ∃ ad kd ix Ab nb cb lb Ak nk ck lk At nt ct lt, A = some ad ∧ OpIs w B (ad.add (k * 5)) kd ix Ab nb cb lb Ak nk ck lk At nt ct lt
theorem OpIs.below {w w' : World} {B C : Nat} {ad : Addr} {kd ix : Int} {Ab : Option Addr} {nb cb : Nat} {lb : List Nat} {Ak : Option Addr} {nk ck : Nat} {lk : List Bool} {At : Option Addr} {nt ct : Nat} {lt : List (Int × Int)}
    (h : OpIs w B ad kd ix Ab nb cb lb Ak nk ck lk At nt ct lt) (hb : Below C w w') (hB : B ≤ C) : OpIs w' B ad kd ix Ab nb cb lb Ak nk ck lk At nt ct lt := by
  have q : ∀ j, w'.cell? (ad.add j) = w.cell? (ad.add j) := fun j => hb.cell (by rw [add_block]; have := h.blk; omega)
  exact ⟨h.blk, (q 0).trans h.c0, (q 1).trans h.c1, (q 2).trans h.c2, (q 3).trans h.c3, (q 4).trans h.c4, h.ib, h.sb, h.lb_, h.bs.below hb hB, h.sk, h.lk_, h.bls.below hb hB, h.st, h.lt_, h.trs.below hb hB⟩
theorem OpsAt.below {w w' : World} {B C : Nat} {A : Option Addr} {n : Nat} (h : OpsAt w B A n) (hb : Below C w w') (hB : B ≤ C) : OpsAt w' B A n := fun k hk => by
  obtain ⟨ad, kd, ix, Ab, nb, cb, lb, Ak, nk, ck, lk, At, nt, ct, lt, e, h1⟩ := h k hk
  exact ⟨ad, kd, ix, Ab, nb, cb, lb, Ak, nk, ck, lk, At, nt, ct, lt, e, h1.below hb hB⟩
theorem i64_in {x : Int} (h : (Lit.int .i64 x).wf = true) : -9223372036854775808 ≤ x ∧ x ≤ 9223372036854775807 := by
  simp only [Lit.wf, Bool.and_eq_true, decide_eq_true_eq] at h
  simp [IntKind.min, IntKind.max, IntKind.signed, IntKind.bits] at h
  omega
section
variable {H : Type} {enc : TypeId × Value → H} {W : World}
theorem bools_in {base : Nat} {v : Value} {d : DataW H} {ps : List MemPlace} (hval : Value.okWide Tryz.prog W .any base 23 v) (hd : DataW.Trod enc Tryz.prog W 0 (fun _ => true) true 23 v d ps) :
    ∃ A n cap l, v = .slice A n cap ∧ SlOk A n cap ∧ Hid (l.length = n) ∧ Hid (Bls W W.heap.size A l) := by
  obtain ⟨A, n, cap, rfl⟩ := okWide_slice Tryz.underlying23 hval
  obtain ⟨fuel, hf⟩ := hd
  exact bools_trod Tryz.underlying23 Tryz.underlying4 (by kernel_rfl) hf
theorem tears_in {base : Nat} {v : Value} {d : DataW H} {ps : List MemPlace} (hval : Value.okWide Tryz.prog W .any base 97 v) (hd : DataW.Trod enc Tryz.prog W 0 (fun _ => true) true 97 v d ps) :
    ∃ A n cap l, v = .slice A n cap ∧ SlOk A n cap ∧ Hid (l.length = n) ∧ Hid (Trs W W.heap.size A l) := by
  obtain ⟨A, n, cap, rfl⟩ := okWide_slice Tryz.underlying97 hval
  obtain ⟨fuel, hf⟩ := hd
  exact tears_trod Tryz.underlying97 Tryz.underlying138 (by kernel_rfl) rfl rfl (by kernel_rfl) (by kernel_rfl) (by kernel_rfl) (by kernel_rfl) hf
end
end Go.Proofs.YtledfdpabmlecaaGreatDoor
end
