/-
  Words on a simulated flash device: its three blocks (the struct, the contents, the map of old sectors), said of plain lists of bytes.
-/
import Derived.Test.YtfacinlpkblopaaRows
import Derived.Test.YtfacinlpkblopaaWords
import Derived.Maps.OwnSet
import Derived.Maps.Ext
import Derived.Lib.SlKeysI
import Derived.Laws.Rows
import Derived.Laws.CopyOwn
namespace Go.Proofs.Ytfacinlpkblopaa
open Go.RowKit Go.Maps Go.ChangeMaps Go.MapKept Go.WideShapes

/-- w' is w but for the blocks of S, and new ones. -/
structure Kept (S : Nat → Prop) (w w' : World) : Prop where
  os : w'.os = w.os
  tape : w'.tape = w.tape
  output : w'.output = w.output
  size : w.heap.size ≤ w'.heap.size
  block : ∀ k, k < w.heap.size → ¬ S k → w'.heap[k]? = w.heap[k]?
section
variable {S : Nat → Prop} {w w' w'' : World}
theorem Kept.refl (S : Nat → Prop) (w : World) : Kept S w w := ⟨rfl, rfl, rfl, Nat.le_refl _, fun _ _ _ => rfl⟩
theorem Kept.trans (h : Kept S w w') (k : Kept S w' w'') : Kept S w w'' :=
  ⟨k.os.trans h.os, k.tape.trans h.tape, k.output.trans h.output, Nat.le_trans h.size k.size, fun i hi hn => (k.block i (Nat.lt_of_lt_of_le hi h.size) hn).trans (h.block i hi hn)⟩
theorem Kept.mono {T : Nat → Prop} (h : Kept S w w') (hs : ∀ k, k < w.heap.size → S k → T k) : Kept T w w' := ⟨h.os, h.tape, h.output, h.size, fun i hi hn => h.block i hi fun hs' => hn (hs i hi hs')⟩
/-- What the second step writes behind the first world's heap does not count. -/
theorem Kept.trans' {T : Nat → Prop} (h : Kept S w w') (k : Kept T w' w'') (ht : ∀ i, T i → i < w.heap.size → S i) : Kept S w w'' :=
  ⟨k.os.trans h.os, k.tape.trans h.tape, k.output.trans h.output, Nat.le_trans h.size k.size, fun i hi hn => (k.block i (Nat.lt_of_lt_of_le hi h.size) fun t => hn (ht i t hi)).trans (h.block i hi hn)⟩
theorem Kept.of_below {B : Nat} (h : Below B w w') : Kept (fun k => B ≤ k) w w' := ⟨h.os, h.tape, h.output, h.size, fun i _ hn => h.block i (Nat.lt_of_not_le hn)⟩
theorem Kept.of_new (h : Below w.heap.size w w') : Kept S w w' := ⟨h.os, h.tape, h.output, h.size, fun i hi _ => h.block i hi⟩
theorem Kept.of_grown {row : Option Nat} (h : w.grownBy w' row) (hr : ∀ k, row = some k → S k) : Kept S w w' := ⟨h.os, h.tape, h.output, h.size, fun i hi hn => h.block i hi fun e => hn (hr i e.symm)⟩
theorem Kept.alloc (w : World) (o : Obj) : Kept S w (w.alloc o) := Kept.of_grown (World.grownBy_alloc w o none) (fun _ e => by cases e)
theorem Kept.drewN (h : Kept S w w') (n : Nat) : Kept S w (w'.drewN n) := ⟨h.os, h.tape, h.output, h.size, h.block⟩
theorem Kept.below {B : Nat} (h : Kept S w w') (hB : B ≤ w.heap.size) (hs : ∀ k, S k → B ≤ k) : Below B w w' :=
  ⟨h.os, h.tape, h.output, h.size, fun i hi => h.block i (Nat.lt_of_lt_of_le hi hB) fun s => by have := hs i s; omega⟩
theorem Kept.setCell (w : World) (a : Addr) (u : Value) (hs : S a.block) : Kept S w (w.setCell a u) :=
  ⟨rfl, rfl, rfl, by simp [World.setCell], fun k _ hn => Below.heap_setCell w a u k (fun e => hn (e ▸ hs))⟩
theorem Kept.setRow (w : World) (g : Nat) (cs : Array Value) (hs : S g) : Kept S w (w.setRow g cs) :=
  ⟨rfl, rfl, rfl, by simp [World.setRow], fun k _ hn => setRow_other w g k cs (fun e => hn (e ▸ hs))⟩
end
theorem Bs.kept {S : Nat → Prop} {w w' : World} {B : Nat} {A : Option Addr} {l : List Nat} (h : Bs w B A l) (hk : Kept S w w') (hs : ∀ ad, A = some ad → 0 < l.length → ¬ S ad.block) : Bs w' B A l := fun k hl => by
  obtain ⟨h1, ad, rfl, h3, h4⟩ := h k hl
  refine ⟨h1, ad, rfl, h3, (World.cell?_of_block (hk.block _ ?_ ?_)).trans h4⟩
  · exact World.block_lt_of_cell? _ _ h4
  · rw [add_block]; exact hs ad rfl (by omega)

/-- What a device holds: the contents, the old contents of its dirty sectors, the number of Writes, the fuse, whether it is dead. -/
structure Flash where
  cur : List Nat
  old : Nat → Option (List Nat)
  wr : Nat
  fused : Bool
  fuse : Int
  dead : Bool
/-- How an entry of the map of old sectors reads: as it stands. -/
def rawElem : Value → Option (DataW Value × List MemPlace) := fun v => some (.held v, [])
def oldVal (l : List Nat) : Value := .agg (vals l).toArray
/-- The map D holds exactly the old contents of the dirty sectors among the first n. -/
structure OldIs (D : DataW Value) (n : Nat) (old : Nat → Option (List Nat)) : Prop where
  has : ∀ i : Nat, i < n → Maps.has D (.int .i64 (i : Int)) = (old i).isSome
  keys : ∀ x : Int, Maps.has D (.int .i64 x) = true → ∃ i : Nat, i < n ∧ x = (i : Int)
  at_ : ∀ (i : Nat) (l : List Nat), old i = some l → ∀ z, D.atKey (.int .i64 (i : Int)) z = .held (oldVal l)
  none : ∀ i, n ≤ i → old i = none
  len : ∀ i l, old i = some l → l.length = 64 ∧ ∀ x ∈ l, x < 256
def dirtyList (n : Nat) (old : Nat → Option (List Nat)) : List Nat := (List.range n).filter fun i => (old i).isSome
def dirtyCount (n : Nat) (old : Nat → Option (List Nat)) : Nat := (dirtyList n old).length

theorem lawI : Keyed Try.prog 3 := int_keyed Try.underlying3
theorem isKey_int (i : Int) : WideAt.IsKeyLit (.int .i64 i) := trivial
theorem keyInt (i : Nat) (h : i < 9223372036854775808) : keyOf Try.prog 3 (.int .i64 (i : Int)) = some (.int .i64 (i : Int)) :=
  keyOf_int_mk Try.underlying3 (WalkArith.wf_i64 (by omega))

/-- The blocks of a device: g the struct, c the contents, m the map. -/
def Dev (w : World) (g c m n : Nat) (s : Flash) : Prop :=
  ∃ (rest : List Value) (D : DataW Value),
    w.heap[g]? = some (.cells #[.slice (some ⟨c, 0, none⟩) (n * 64) (n * 64 + rest.length), .map (some m), .int .i64 (s.wr : Int), .bool s.fused, .int .i64 s.fuse, .bool s.dead] 57 (0, 0)) ∧
    w.heap[c]? = some (.cells (vals s.cur ++ rest).toArray 5 (0, 0)) ∧
    w.ownsMap Try.prog 3 rawElem m (Maps.size D) D ∧ OldIs D n s.old ∧ s.cur.length = n * 64 ∧ (∀ x ∈ s.cur, x < 256) ∧
    1 ≤ n ∧ n ≤ 1048576 ∧ n * 64 + rest.length ≤ 9223372036854775807 ∧ g ≠ c ∧ (s.fused = true → 0 ≤ s.fuse ∧ s.fuse ≤ 9223372036854775807)
/-- The blocks that a device's calls may write. -/
def devS (g c m : Nat) (k : Nat) : Prop := k = g ∨ k = c ∨ k = m
section
variable {w w' : World} {g c m n : Nat} {s : Flash}
theorem ownsMap_block {P : Program} {k : TypeId} {R : Value → Option (DataW Value × List MemPlace)} {b N : Nat} {D : DataW Value} (h : w.ownsMap P k R b N D) (hb : w'.heap[b]? = w.heap[b]?) : w'.ownsMap P k R b N D := by
  obtain ⟨es, clock, h1, F, hs, hD⟩ := h
  exact ⟨es, clock, hb.trans h1, F, hs, hD⟩
theorem ownsMap_size {P : Program} {k : TypeId} {R : Value → Option (DataW Value × List MemPlace)} {b N : Nat} {D : DataW Value} (h : w.ownsMap P k R b N D) : w.ownsMap P k R b (Maps.size D) D := by
  obtain ⟨es, clock, h1, F, hs, rfl⟩ := h
  exact ⟨es, clock, h1, F, by simp [Maps.size, length_sorted], rfl⟩
theorem Dev.block (h : Dev w g c m n s) (hg : w'.heap[g]? = w.heap[g]?) (hc : w'.heap[c]? = w.heap[c]?) (hm : w'.heap[m]? = w.heap[m]?) : Dev w' g c m n s := by
  obtain ⟨rest, D, h1, h2, h3, h4⟩ := h
  exact ⟨rest, D, hg.trans h1, hc.trans h2, ownsMap_block h3 hm, h4⟩
theorem Dev.lt (h : Dev w g c m n s) : g < w.heap.size ∧ c < w.heap.size ∧ m < w.heap.size := by
  obtain ⟨rest, D, h1, h2, h3, h4⟩ := h
  exact ⟨(Array.getElem?_eq_some_iff.1 h1).1, (Array.getElem?_eq_some_iff.1 h2).1, h3.lt⟩
theorem Dev.kept {S : Nat → Prop} (h : Dev w g c m n s) (hk : Kept S w w') (hg : ¬ S g) (hc : ¬ S c) (hm : ¬ S m) : Dev w' g c m n s :=
  h.block (hk.block g h.lt.1 hg) (hk.block c h.lt.2.1 hc) (hk.block m h.lt.2.2 hm)
theorem Dev.below {B : Nat} (h : Dev w g c m n s) (hb : Below B w w') (hg : g < B) (hc : c < B) (hm : m < B) : Dev w' g c m n s := h.block (hb.block g hg) (hb.block c hc) (hb.block m hm)
theorem Dev.drewN (h : Dev w g c m n s) (k : Nat) : Dev (w.drewN k) g c m n s := h
theorem Dev.apart (h : Dev w g c m n s) : g ≠ c ∧ g ≠ m ∧ c ≠ m := by
  obtain ⟨rest, D, h1, h2, ⟨es, clock, h3, _⟩, _, _, _, _, _, _, h4, _⟩ := h
  exact ⟨h4, (fun e => by subst e; rw [h1] at h3; cases h3), (fun e => by subst e; rw [h2] at h3; cases h3)⟩
theorem Dev.n_le (h : Dev w g c m n s) : 1 ≤ n ∧ n ≤ 1048576 := by obtain ⟨rest, D, _, _, _, _, _, _, h1, h2, _⟩ := h; exact ⟨h1, h2⟩
theorem Dev.fuse_in (h : Dev w g c m n s) : s.fused = true → 0 ≤ s.fuse ∧ s.fuse ≤ 9223372036854775807 := by obtain ⟨rest, D, _, _, _, _, _, _, _, _, _, _, h⟩ := h; exact h
theorem Dev.cur_len (h : Dev w g c m n s) : s.cur.length = n * 64 := by obtain ⟨rest, D, _, _, _, _, h, _⟩ := h; exact h
theorem Dev.cur_lt (h : Dev w g c m n s) : ∀ x ∈ s.cur, x < 256 := by obtain ⟨rest, D, _, _, _, _, _, h, _⟩ := h; exact h
end
theorem size_dirty {w : World} {N b n : Nat} {D : DataW Value} {old : Nat → Option (List Nat)} (h : w.ownsMap Try.prog 3 rawElem b N D) (ho : OldIs D n old) :
    ((dirtyList n old).map (fun i : Nat => (i : Int))).Perm (intKeys D) ∧ Maps.size D = dirtyCount n old := by
  have hp : ((dirtyList n old).map (fun i : Nat => (i : Int))).Perm (intKeys D) := by
    refine CollectedI.perm (left := fun _ => false) ⟨?_, fun x => ?_⟩ h lawI Try.underlying3 (fun _ => rfl)
    · refine List.pairwise_map.2 (List.Pairwise.imp (R := fun a b => a ≠ b) (fun {a b} hne (e : ((a : Nat) : Int) = ((b : Nat) : Int)) => hne (by omega)) ?_)
      exact List.nodup_range.filter _
    · rw [List.mem_map]
      constructor
      · rintro ⟨i, hi, rfl⟩
        rw [dirtyList, List.mem_filter, List.mem_range] at hi
        exact ⟨by rw [ho.has i hi.1]; exact hi.2, rfl⟩
      · rintro ⟨hx, _⟩
        obtain ⟨i, hi, rfl⟩ := ho.keys x hx
        refine ⟨i, ?_, rfl⟩
        rw [dirtyList, List.mem_filter, List.mem_range]
        exact ⟨hi, by rw [ho.has i hi] at hx; exact hx⟩
  refine ⟨hp, ?_⟩
  have := hp.length_eq
  rw [List.length_map] at this
  obtain ⟨es, rfl⟩ := h.isMap
  have e : Maps.size (DataW.map es) = (intKeys (DataW.map es)).length := by simp [Maps.size, intKeys]
  rw [e, ← this]; rfl
theorem dirty_le (n : Nat) (old : Nat → Option (List Nat)) : dirtyCount n old ≤ n := by
  unfold dirtyCount dirtyList
  have := List.length_filter_le (fun i => (old i).isSome) (List.range n)
  rwa [List.length_range] at this
/-- The keys, sorted. -/
theorem sorted_dirty {n : Nat} {D : DataW Value} {old : Nat → Option (List Nat)} {ss : List Int} (hp : ((dirtyList n old).map (fun i : Nat => (i : Int))).Perm (intKeys D)) (hs : ss.Perm (intKeys D)) :
    ss.mergeSort (fun x y => decide (x ≤ y)) = (dirtyList n old).map (fun i : Nat => (i : Int)) := by
  have h1 := mergeSort_of_perm_i (hs.trans hp.symm)
  have h2 : ((dirtyList n old).map (fun i : Nat => (i : Int))).mergeSort leI = (dirtyList n old).map (fun i : Nat => (i : Int)) := by
    apply List.mergeSort_of_pairwise
    refine List.pairwise_map.2 ?_
    refine List.Pairwise.imp (R := fun a b : Nat => a < b) (fun {a b} hab => by simp [leI]; omega) ?_
    exact List.pairwise_lt_range.filter _
  exact h1.trans h2
/-- 'clear' of a map. -/
theorem run_clear_own {H : Type} {P : Program} {w : World} {k e t ty : TypeId} {R : Value → Option (DataW H × List MemPlace)} {b N : Nat} {D : DataW H} (h : w.ownsMap P k R b N D) (ht : P.underlying t = some (.map k e)) :
    ∃ w', (Builtin.clear_ #[t] ty #[.map (some b)]).run P w = .ok (.tuple #[]) w' ∧ w'.ownsMap P k R b 0 (.map []) ∧ w.grownBy w' (some b) := by
  obtain ⟨es, clock, hb, F, hs, rfl⟩ := h
  refine ⟨_, by simp [Builtin.clear_, run_underlying ht, MapKept.run_getObj_map hb, MapKept.run_setObj_map _ hb, Result.andThen]; rfl, ⟨#[], clock, ?_, ⟨by simp, MapKept.stamped_empty clock, by simp⟩, Nat.le_refl _, rfl⟩, ?_⟩
  · exact heap_setBlock_same hb _
  · exact ⟨rfl, rfl, rfl, by simp, fun i _ hi => heap_setBlock_other hb _ (fun e => hi (by rw [e]))⟩
end Go.Proofs.Ytfacinlpkblopaa
