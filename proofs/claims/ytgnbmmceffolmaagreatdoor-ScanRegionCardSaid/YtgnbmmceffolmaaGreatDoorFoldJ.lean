/-
  The texts FlashA, FlashB, RowMore of this proof, one behind the other.
-/
import Derived.WalkKit
import Derived.OwnWalk
import Derived.WalkSpells
import Derived.WalkLawsBesides
import Derived.Test.YtgnbmmceffolmaaGreatDoorRows
import Derived.Test.YtgnbmmceffolmaaGreatDoorFoldA
import Derived.Test.YtgnbmmceffolmaaGreatDoorFoldB
import Derived.Maps.OwnSet
import Derived.Maps.Ext
import Derived.Lib.SlKeysI
import Derived.Laws.Rows
import Derived.Laws.CopyOwn
import Derived.Outline
import Derived.Lib.Hide
import Derived.Deep.LoopGhost
import Derived.Deep.QuietTactic
import Derived.BigQuiet
import Derived.Deep.CutBlock
import Derived.Deep.DeepCutAuto
import Derived.Carry
import Derived.Deep.MidRow
import Derived.Deep.WholeRow
import Derived.StillTailTactics
import Derived.Deep.SlicePairs
import Derived.Deep.Grids
section
section
namespace Go.Proofs.YtgnbmmceffolmaaGreatDoor
end Go.Proofs.YtgnbmmceffolmaaGreatDoor
end
section
namespace Go.Proofs.YtgnbmmceffolmaaGreatDoor
open Go.RowKit Go.Maps Go.ChangeMaps Go.MapKept Go.WideShapes

/-- What a device holds: the contents, the old contents of its dirty sectors, the number of Writes, the fuse, whether it is dead. -/
structure Flash where
  cur : List Nat
  old : Nat → Option (List Nat)
  wr : Nat
  fused : Bool
  fuse : Int
  dead : Bool
/-- How an entry of the map of old sectors reads: as it stands. -/
def rawElem : Value → Option (DataW Value × List MemPlace) := fun v => some (.held v, [])
def oldVal (l : List Nat) : Value := .agg (vals l).toArray
/-- The map D holds exactly the old contents of the dirty sectors among the first n. -/
structure OldIs (D : DataW Value) (n : Nat) (old : Nat → Option (List Nat)) : Prop where
  has : ∀ i : Nat, i < n → Maps.has D (.int .i64 (i : Int)) = (old i).isSome
  keys : ∀ x : Int, Maps.has D (.int .i64 x) = true → ∃ i : Nat, i < n ∧ x = (i : Int)
  at_ : ∀ (i : Nat) (l : List Nat), old i = some l → ∀ z, D.atKey (.int .i64 (i : Int)) z = .held (oldVal l)
  none : ∀ i, n ≤ i → old i = none
  len : ∀ i l, old i = some l → l.length = 64 ∧ ∀ x ∈ l, x < 256
def dirtyList (n : Nat) (old : Nat → Option (List Nat)) : List Nat := (List.range n).filter fun i => (old i).isSome
def dirtyCount (n : Nat) (old : Nat → Option (List Nat)) : Nat := (dirtyList n old).length

theorem lawI : Keyed Tryz.prog 3 := int_keyed Tryz.underlying3
theorem isKey_int (i : Int) : WideAt.IsKeyLit (.int .i64 i) := trivial
theorem keyInt (i : Nat) (h : i < 9223372036854775808) : keyOf Tryz.prog 3 (.int .i64 (i : Int)) = some (.int .i64 (i : Int)) :=
  keyOf_int_mk Tryz.underlying3 (WalkArith.wf_i64 (by omega))

/-- The blocks of a device: g the struct, c the contents, m the map. -/
def Dev (w : World) (g c m n : Nat) (s : Flash) : Prop :=
  ∃ (rest : List Value) (D : DataW Value),
    w.heap[g]? = some (.cells #[.slice (some ⟨c, 0, none⟩) (n * 64) (n * 64 + rest.length), .map (some m), .int .i64 (s.wr : Int), .bool s.fused, .int .i64 s.fuse, .bool s.dead] 97 (0, 0)) ∧
    w.heap[c]? = some (.cells (vals s.cur ++ rest).toArray 5 (0, 0)) ∧
    w.ownsMap Tryz.prog 3 rawElem m (Maps.size D) D ∧ OldIs D n s.old ∧ s.cur.length = n * 64 ∧ (∀ x ∈ s.cur, x < 256) ∧
    1 ≤ n ∧ n ≤ 1048576 ∧ n * 64 + rest.length ≤ 9223372036854775807 ∧ g ≠ c ∧ (s.fused = true → 0 ≤ s.fuse ∧ s.fuse ≤ 9223372036854775807)
/-- The blocks that a device's calls may write. -/
def devS (g c m : Nat) (k : Nat) : Prop := k = g ∨ k = c ∨ k = m
section
variable {w w' : World} {g c m n : Nat} {s : Flash}
theorem ownsMap_block {P : Program} {k : TypeId} {R : Value → Option (DataW Value × List MemPlace)} {b N : Nat} {D : DataW Value} (h : w.ownsMap P k R b N D) (hb : w'.heap[b]? = w.heap[b]?) : w'.ownsMap P k R b N D := by
  obtain ⟨es, clock, h1, F, hs, hD⟩ := h
  exact ⟨es, clock, hb.trans h1, F, hs, hD⟩
theorem ownsMap_size {P : Program} {k : TypeId} {R : Value → Option (DataW Value × List MemPlace)} {b N : Nat} {D : DataW Value} (h : w.ownsMap P k R b N D) : w.ownsMap P k R b (Maps.size D) D := by
  obtain ⟨es, clock, h1, F, hs, rfl⟩ := h
  exact ⟨es, clock, h1, F, by simp [Maps.size, length_sorted], rfl⟩
theorem Dev.block (h : Dev w g c m n s) (hg : w'.heap[g]? = w.heap[g]?) (hc : w'.heap[c]? = w.heap[c]?) (hm : w'.heap[m]? = w.heap[m]?) : Dev w' g c m n s := by
  obtain ⟨rest, D, h1, h2, h3, h4⟩ := h
  exact ⟨rest, D, hg.trans h1, hc.trans h2, ownsMap_block h3 hm, h4⟩
theorem Dev.lt (h : Dev w g c m n s) : g < w.heap.size ∧ c < w.heap.size ∧ m < w.heap.size := by
  obtain ⟨rest, D, h1, h2, h3, h4⟩ := h
  exact ⟨(Array.getElem?_eq_some_iff.1 h1).1, (Array.getElem?_eq_some_iff.1 h2).1, h3.lt⟩
theorem Dev.kept {S : Nat → Prop} (h : Dev w g c m n s) (hk : Kept S w w') (hg : ¬ S g) (hc : ¬ S c) (hm : ¬ S m) : Dev w' g c m n s :=
  h.block (hk.block g h.lt.1 hg) (hk.block c h.lt.2.1 hc) (hk.block m h.lt.2.2 hm)
theorem Dev.below {B : Nat} (h : Dev w g c m n s) (hb : Below B w w') (hg : g < B) (hc : c < B) (hm : m < B) : Dev w' g c m n s := h.block (hb.block g hg) (hb.block c hc) (hb.block m hm)
theorem Dev.drewN (h : Dev w g c m n s) (k : Nat) : Dev (w.drewN k) g c m n s := h
theorem Dev.apart (h : Dev w g c m n s) : g ≠ c ∧ g ≠ m ∧ c ≠ m := by
  obtain ⟨rest, D, h1, h2, ⟨es, clock, h3, _⟩, _, _, _, _, _, _, h4, _⟩ := h
  exact ⟨h4, (fun e => by subst e; rw [h1] at h3; cases h3), (fun e => by subst e; rw [h2] at h3; cases h3)⟩
theorem Dev.n_le (h : Dev w g c m n s) : 1 ≤ n ∧ n ≤ 1048576 := by obtain ⟨rest, D, _, _, _, _, _, _, h1, h2, _⟩ := h; exact ⟨h1, h2⟩
theorem Dev.fuse_in (h : Dev w g c m n s) : s.fused = true → 0 ≤ s.fuse ∧ s.fuse ≤ 9223372036854775807 := by obtain ⟨rest, D, _, _, _, _, _, _, _, _, _, _, h⟩ := h; exact h
theorem Dev.cur_len (h : Dev w g c m n s) : s.cur.length = n * 64 := by obtain ⟨rest, D, _, _, _, _, h, _⟩ := h; exact h
theorem Dev.cur_lt (h : Dev w g c m n s) : ∀ x ∈ s.cur, x < 256 := by obtain ⟨rest, D, _, _, _, _, _, h, _⟩ := h; exact h
end
theorem size_dirty {w : World} {N b n : Nat} {D : DataW Value} {old : Nat → Option (List Nat)} (h : w.ownsMap Tryz.prog 3 rawElem b N D) (ho : OldIs D n old) :
    ((dirtyList n old).map (fun i : Nat => (i : Int))).Perm (intKeys D) ∧ Maps.size D = dirtyCount n old := by
  have hp : ((dirtyList n old).map (fun i : Nat => (i : Int))).Perm (intKeys D) := by
    refine CollectedI.perm (left := fun _ => false) ⟨?_, fun x => ?_⟩ h lawI Tryz.underlying3 (fun _ => rfl)
    · refine List.pairwise_map.2 (List.Pairwise.imp (R := fun a b => a ≠ b) (fun {a b} hne (e : ((a : Nat) : Int) = ((b : Nat) : Int)) => hne (by omega)) ?_)
      exact List.nodup_range.filter _
    · rw [List.mem_map]
      constructor
      · rintro ⟨i, hi, rfl⟩
        rw [dirtyList, List.mem_filter, List.mem_range] at hi
        exact ⟨by rw [ho.has i hi.1]; exact hi.2, rfl⟩
      · rintro ⟨hx, _⟩
        obtain ⟨i, hi, rfl⟩ := ho.keys x hx
        refine ⟨i, ?_, rfl⟩
        rw [dirtyList, List.mem_filter, List.mem_range]
        exact ⟨hi, by rw [ho.has i hi] at hx; exact hx⟩
  refine ⟨hp, ?_⟩
  have := hp.length_eq
  rw [List.length_map] at this
  obtain ⟨es, rfl⟩ := h.isMap
  have e : Maps.size (DataW.map es) = (intKeys (DataW.map es)).length := by simp [Maps.size, intKeys]
  rw [e, ← this]; rfl
theorem dirty_le (n : Nat) (old : Nat → Option (List Nat)) : dirtyCount n old ≤ n := by
  unfold dirtyCount dirtyList
  have := List.length_filter_le (fun i => (old i).isSome) (List.range n)
  rwa [List.length_range] at this
/-- 'clear' of a map. -/
theorem run_clear_own {H : Type} {P : Program} {w : World} {k e t ty : TypeId} {R : Value → Option (DataW H × List MemPlace)} {b N : Nat} {D : DataW H} (h : w.ownsMap P k R b N D) (ht : P.underlying t = some (.map k e)) :
    ∃ w', (Builtin.clear_ #[t] ty #[.map (some b)]).run P w = .ok (.tuple #[]) w' ∧ w'.ownsMap P k R b 0 (.map []) ∧ w.grownBy w' (some b) := by
  obtain ⟨es, clock, hb, F, hs, rfl⟩ := h
  refine ⟨_, by simp [Builtin.clear_, run_underlying ht, MapKept.run_getObj_map hb, MapKept.run_setObj_map _ hb, Result.andThen]; rfl, ⟨#[], clock, ?_, ⟨by simp, MapKept.stamped_empty clock, by simp⟩, Nat.le_refl _, rfl⟩, ?_⟩
  · exact heap_setBlock_same hb _
  · exact ⟨rfl, rfl, rfl, by simp, fun i _ hi => heap_setBlock_other hb _ (fun e => hi (by rw [e]))⟩
end Go.Proofs.YtgnbmmceffolmaaGreatDoor
end
section
namespace Go.Proofs.YtgnbmmceffolmaaGreatDoor
open Go.RowKit Go.Maps

theorem rd6 {w : World} {g : Nat} {a0 a1 a2 a3 a4 a5 : Value} {t : TypeId} (h : w.heap[g]? = some (.cells #[a0, a1, a2, a3, a4, a5] t (0, 0))) :
    (w.cell? ⟨g, 0, none⟩ = some a0 ∧ w.cell? ⟨g, 1, none⟩ = some a1 ∧ w.cell? ⟨g, 2, none⟩ = some a2 ∧ w.cell? ⟨g, 3, none⟩ = some a3 ∧ w.cell? ⟨g, 4, none⟩ = some a4 ∧ w.cell? ⟨g, 5, none⟩ = some a5) ∧
    (w.frozen? ⟨g, 0, none⟩ = false ∧ w.frozen? ⟨g, 1, none⟩ = false ∧ w.frozen? ⟨g, 2, none⟩ = false ∧ w.frozen? ⟨g, 3, none⟩ = false ∧ w.frozen? ⟨g, 4, none⟩ = false ∧ w.frozen? ⟨g, 5, none⟩ = false) := by
  refine ⟨⟨?_, ?_, ?_, ?_, ?_, ?_⟩, ⟨?_, ?_, ?_, ?_, ?_, ?_⟩⟩
  · rw [cell_of_row w g 0 _ t (0, 0) h]; rfl
  · rw [cell_of_row w g 1 _ t (0, 0) h]; rfl
  · rw [cell_of_row w g 2 _ t (0, 0) h]; rfl
  · rw [cell_of_row w g 3 _ t (0, 0) h]; rfl
  · rw [cell_of_row w g 4 _ t (0, 0) h]; rfl
  · rw [cell_of_row w g 5 _ t (0, 0) h]; rfl
  · exact frozen_of_row w g 0 _ t h
  · exact frozen_of_row w g 1 _ t h
  · exact frozen_of_row w g 2 _ t h
  · exact frozen_of_row w g 3 _ t h
  · exact frozen_of_row w g 4 _ t h
  · exact frozen_of_row w g 5 _ t h

theorem issize_yes (n : Int) (h1 : 1 ≤ n) (h2 : n ≤ 1048576) (w : World) :
    Calls Tryz.prog 18 #[.int .i64 n] w fun e w' => e = .returned (.bool true) ∧ w = w' := by
  go_enter Tryz.func18, Tryz.ntmps18
  go_wp2
  go_ret
  exact ⟨rfl, rfl⟩
section
variable {g c m n : Nat} {s : Flash} {w : World}
theorem dead_any (hd : Hid (Dev w g c m n s)) :
    Calls Tryz.prog 48 #[.pointer (some ⟨g, 0, none⟩)] w fun e w' => e = .returned (.bool s.dead) ∧ w = w' := by
  obtain ⟨rest, D, hh, hc, hm, ho, hl, hb, hn1, hn2, hcap, hgc, hfu⟩ := hd.out
  obtain ⟨⟨c0, c1, c2, c3, c4, c5⟩, _⟩ := rd6 hh
  have H := Lib.hid (And.intro hh (And.intro hc (And.intro hl hm))); clear hh hc hl hm c0 c1 c2 c3 c4
  go_enter Tryz.func48, Tryz.ntmps48
  go_wp2
  go_ret
  exact ⟨rfl, rfl⟩
theorem sectors_any (hd : Hid (Dev w g c m n s)) :
    Calls Tryz.prog 79 #[.pointer (some ⟨g, 0, none⟩)] w fun e w' => e = .returned (.int .i64 (n : Int)) ∧ w = w' := by
  obtain ⟨rest, D, hh, hc, hm, ho, hl, hb, hn1, hn2, hcap, hgc, hfu⟩ := hd.out
  obtain ⟨⟨c0, c1, c2, c3, c4, c5⟩, _⟩ := rd6 hh
  have H := Lib.hid (And.intro hh (And.intro hc (And.intro hl hm))); clear hh hc hl hm c1 c2 c3 c4 c5
  go_enter Tryz.func79, Tryz.ntmps79
  go_wp2
  go_ret
  exact ⟨ret_int (by omega), rfl⟩
end
end Go.Proofs.YtgnbmmceffolmaaGreatDoor
end
section
namespace Go.Proofs.YtgnbmmceffolmaaGreatDoor
open Go.RowKit Go.Maps

def Flash.fresh (l : List Nat) : Flash := ⟨l, fun _ => none, 0, false, 0, false⟩
/-- What a call leaves that makes a device of the bytes l. -/
def MadeDev (w : World) (n : Nat) (l : List Nat) (e : Ending) (w' : World) : Prop :=
  ∃ g c m, e = .returned (.pointer (some ⟨g, 0, none⟩)) ∧ Dev w' g c m n (Flash.fresh l) ∧ w.heap.size ≤ g ∧ w.heap.size ≤ c ∧ w.heap.size ≤ m ∧ Below w.heap.size w w'
theorem old_empty (n : Nat) : OldIs (.map []) n (fun _ => none) :=
  ⟨fun _ _ => rfl, (fun _ h => by cases h), (fun _ _ h => by cases h), fun _ _ => rfl, (fun _ _ h => by cases h)⟩
/-- What 'holding' leaves: the blocks behind those that were. -/
def Held (w : World) (c n : Nat) (l : List Nat) (e : Ending) (w' : World) : Prop :=
  ∃ g m, e = .returned (.pointer (some ⟨g, 0, none⟩)) ∧ Dev w' g c m n (Flash.fresh l) ∧ w.heap.size ≤ g ∧ w.heap.size ≤ m ∧ Below w.heap.size w w'
theorem holding_any (c n cap : Nat) (l : List Nat) (rest : List Value) (w : World) (hc : Hid (w.heap[c]? = some (.cells (vals l ++ rest).toArray 5 (0, 0)))) (hcap : Hid (cap = n * 64 + rest.length)) (hl : Hid (l.length = n * 64)) (hb : Hid (∀ x ∈ l, x < 256)) (hn1 : 1 ≤ n) (hn2 : n ≤ 1048576) (hm : Hid (n * 64 + rest.length ≤ 9223372036854775807)) :
    Calls Tryz.prog 19 #[.slice (some ⟨c, 0, none⟩) (n * 64) cap] w (Held w c n l) := by
  have hmm := @run_makeMap Tryz.prog
  have hlt : c < w.heap.size := (Array.getElem?_eq_some_iff.1 hc.out).1
  go_enter Tryz.func19, Tryz.ntmps19
  go_wp2
  go_ret
  refine ⟨w.heap.size + 1, w.heap.size, ?_, ?_, by omega, by omega, ((Below.refl _ w).alloc (Nat.le_refl _) _).alloc (by simp) _⟩
  · simp
  · refine ⟨rest, .map [], ?_, ?_, ?_, old_empty n, hl.out, hb.out, hn1, hn2, hm.out, by omega, fun h => by cases h⟩
    · rw [← hcap.out]
      exact heap_alloc2_new _ _ _
    · exact ((((Below.refl _ w).alloc (Nat.le_refl _) _).alloc (by simp) _ : Below w.heap.size w _).block c hlt).trans hc.out
    · exact (World.ownsMap_made w Tryz.prog 3 rawElem).alloc _
/-- A row of the call's own, as the block of a device's contents. -/
theorem own_block {w : World} {base : Nat} {v : Value} {k : Nat} {l : List Nat} (h : w.ownsRow base 5 1 v k (vals l)) (hk : 0 < k) :
    ∃ c rest, v = .slice (some ⟨c, 0, none⟩) k (k + rest.length) ∧ base ≤ c ∧ w.heap[c]? = some (.cells (vals l ++ rest).toArray 5 (0, 0)) ∧ l.length = k ∧ k + rest.length ≤ maxLen := by
  have hl : l.length = k := by have := h.1; rw [vals_length] at this; omega
  rcases h.2 with ⟨_, h0⟩ | ⟨g, cap, cur, rfl, hb, hg, hnc, hcm, hsz, htk⟩
  · omega
  · have e : cur.toList = vals l ++ cur.toList.drop k := by rw [← htk, Nat.mul_one, List.take_append_drop]
    have hlen : k + (cur.toList.drop k).length = cap := by rw [List.length_drop, Array.length_toList]; omega
    refine ⟨g, cur.toList.drop k, by rw [hlen], hb, ?_, hl, by rw [hlen]; exact hcm⟩
    rw [hg, ← e]
theorem vals_zero (k : Nat) : (madeCells (Value.cells (.int .u8 0)) (k * 1)).toList = vals (List.replicate k 0) := by
  simp only [madeCells, vals, Value.cells, List.map_replicate]
  apply List.ext_getElem
  · simp
  · intro i h1 h2
    simp [Nat.mod_one]
set_option maxHeartbeats 400000 in
theorem new_yes (n : Nat) (ni : Int) (hni : ni = (n : Int)) (w : World) (h1 : 1 ≤ n) (h2 : n ≤ 1048576) :
    Calls Tryz.prog 27 #[.int .i64 ni] w (MadeDev w n (List.replicate (n * 64) 0)) := by
  subst hni
  obtain ⟨i0, hi0, hz0, hz1, hz2⟩ := info_parts info_u8
  have I0 := Lib.hid (And.intro hi0 (And.intro hz0 (And.intro hz1 hz2))); clear hi0 hz0 hz1 hz2
  have B0 : Hid (i0.bytes * (n * 64) ≤ 281474976710656 ∧ n * 64 ≤ maxLen) := by rw [I0.out.2.2.2]; exact ⟨by omega, by unfold maxLen; omega⟩
  go_enter Tryz.func27, Tryz.ntmps27
  go_wp2_with (first
    | (go_at_call 18; refine (issize_yes _ (by omega) (by omega) _).mono ?_; rintro e w' ⟨rfl, rfl⟩)
    | (at_make; refine wpList_make_full w rfl _ _ 27 rfl w.heap.size 5 i0 (.int .u8 0) 1 Tryz.underlying27 I0.out.1 I0.out.2.1 I0.out.2.2.1 .i64 .i64 _ _ (n * 64) rfl rfl (by simp) (by simp) B0.out.1 B0.out.2 (Nat.le_refl _) ?_; intro w1 hown hg))
  have hown1 : w1.ownsRow w.heap.size 5 1 (.slice (some ⟨w.heap.size, 0, none⟩) (n * 64) (n * 64)) (n * 64) (vals (List.replicate (n * 64) 0)) := by
    rw [← vals_zero]; exact hown
  obtain ⟨c, rest, hv, hb, hc, hl, hm⟩ := own_block hown1 (by omega)
  injection hv with e1 e2 e3
  injection e1 with e1
  injection e1 with e1
  subst e1
  have HC := Lib.hid hc
  have HCap : Hid (n * 64 = n * 64 + rest.length) := e3
  have HL := Lib.hid hl
  have HM : Hid (n * 64 + rest.length ≤ 9223372036854775807) := hm
  have HZ : Hid (∀ x ∈ List.replicate (n * 64) 0, x < 256) := fun x hx => by rw [(List.mem_replicate.1 hx).2]; decide
  have HB : Hid (Below w.heap.size w w1) := (Below.refl _ w).grown hg (Nat.le_refl _) (fun k e => by cases e)
  clear hc e3 hl hm hown hown1 e2
  go_wp2_with (go_at_call 19; refine (holding_any _ n _ _ rest _ HC HCap HL HZ h1 h2 HM).mono ?_; rintro e w2 ⟨g, m, rfl, hd, hg1, hm1, hb2⟩)
  go_ret
  have hs := HB.out.size
  exact ⟨g, _, m, rfl, hd, by omega, Nat.le_refl _, by omega, HB.out.trans (hb2.mono hs)⟩
theorem load_yes (A : Option Addr) (B n c : Nat) (l : List Nat) (w : World) (hA : A = none → c = 0 ∧ n * 64 = 0) (hl : Hid (l.length = n * 64)) (hn1 : 1 ≤ n) (hn2 : n ≤ 1048576) (hb : Hid (Bs w B A l)) :
    Calls Tryz.prog 5 #[.slice A (n * 64) c] w (MadeDev w n l) := by
  have hr : ((n * 64 : Nat) : Int) % 64 = 0 := by omega
  have hr2 : ((n : Int) * 64) % 64 = 0 := by omega
  have hq : ((n : Int) * 64) / 64 = (n : Int) := by omega
  go_enter Tryz.func5, Tryz.ntmps5
  go_wp2_with (first
    | (go_at_call 18; refine (issize_yes _ (by omega) (by omega) _).mono ?_; rintro e w' ⟨rfl, rfl⟩)
    | (go_at_call 20; refine (clone_any A B _ _ l _ (fun e => ⟨(hA e).1, (hA e).2⟩) hl (by omega) hb).mono ?_; rintro e w1 ⟨v, rfl, hown, hb1⟩))
  obtain ⟨c1, rest, rfl, hb0, hc, hl1, hm⟩ := own_block hown (by omega)
  have HC := Lib.hid hc
  have HL := Lib.hid hl1
  have HM : Hid (n * 64 + rest.length ≤ 9223372036854775807) := hm
  have HZ : Hid (∀ x ∈ l, x < 256) := hb.out.lt
  have HB := Lib.hid hb1
  have HCap : Hid (n * 64 + rest.length = n * 64 + rest.length) := rfl
  clear hc hl1 hm hown hb1
  go_wp2_with (go_at_call 19; refine (holding_any _ n _ _ rest _ HC HCap HL HZ hn1 hn2 HM).mono ?_; rintro e w2 ⟨g, m, rfl, hd, hg1, hm1, hb2⟩)
  go_ret
  have hs := HB.out.size
  exact ⟨g, _, m, rfl, hd, by omega, hb0, by omega, HB.out.trans (hb2.mono hs)⟩
section
variable {g c m n : Nat} {s : Flash} {w : World}
theorem Dev.bytes (h : Dev w g c m n s) : Bs w w.heap.size (some ⟨c, 0, none⟩) s.cur := by
  obtain ⟨rest, D, hh, hc, hm, ho, hl, hb, hn1, hn2, hcap, hgc, hfu⟩ := h
  intro k hk
  have hx : s.cur[k] = s.cur.getD k 0 := by rw [List.getD_eq_getElem?_getD, List.getElem?_eq_getElem hk]; rfl
  refine ⟨by rw [← hx]; exact hb _ (List.getElem_mem hk), _, rfl, (Array.getElem?_eq_some_iff.1 hc).1, ?_⟩
  have e : (⟨c, 0, none⟩ : Addr).add k = ⟨c, k, none⟩ := by unfold Addr.add; split <;> simp_all
  rw [e, cell_of_row w c k _ _ _ hc]
  have hv := vals_at hk
  rw [List.getElem?_toArray, List.getElem?_append_left (by rw [vals_length]; exact hk)]
  exact hv
/-- The struct written, field by field. -/
theorem dev_struct {w' : World} (h : Dev w g c m n s) (s' : Flash) (hcur : s'.cur = s.cur) (hold : s'.old = s.old) (hfu' : s'.fused = true → 0 ≤ s'.fuse ∧ s'.fuse ≤ 9223372036854775807)
    (hk : Kept (fun k => k = g) w w')
    (hg : ∀ a0 a1, w.heap[g]? = some (.cells #[a0, a1, .int .i64 (s.wr : Int), .bool s.fused, .int .i64 s.fuse, .bool s.dead] 97 (0, 0)) → w'.heap[g]? = some (.cells #[a0, a1, .int .i64 (s'.wr : Int), .bool s'.fused, .int .i64 s'.fuse, .bool s'.dead] 97 (0, 0))) : Dev w' g c m n s' := by
  obtain ⟨h1, h2, h3⟩ := h.apart
  obtain ⟨l1, l2, l3⟩ := h.lt
  obtain ⟨rest, D, hh, hc, hm, ho, hl, hb, hn1, hn2, hcap, hgc, hfu⟩ := h
  refine ⟨rest, D, hg _ _ hh, ?_, ownsMap_block hm (hk.block m l3 (fun e => h2 e.symm)), by rw [hold]; exact ho, by rw [hcur]; exact hl, by rw [hcur]; exact hb, hn1, hn2, hcap, hgc, hfu'⟩
  rw [hcur]
  exact (hk.block c l2 (fun e => h1 e.symm)).trans hc
/-- Does the power last for one more call? -/
def Flash.lasts (s : Flash) : Bool := !s.fused || s.fuse != 0
def Flash.burnt (s : Flash) : Flash := if s.fused = true then (if s.fuse = 0 then { s with dead := true } else { s with fuse := s.fuse - 1 }) else s
theorem burn_any (hd : Hid (Dev w g c m n s)) :
    Calls Tryz.prog 95 #[.pointer (some ⟨g, 0, none⟩)] w fun e w' => e = .returned (.bool s.lasts) ∧ Dev w' g c m n s.burnt ∧ Kept (fun k => k = g) w w' := by
  obtain ⟨rest, D, hh, hc, hm, ho, hl, hb, hn1, hn2, hcap, hgc, hfu⟩ := hd.out
  obtain ⟨⟨c0, c1, c2, c3, c4, c5⟩, f0, f1, f2, f3, f4, f5⟩ := rd6 hh
  have H := Lib.hid (And.intro hh (And.intro hc (And.intro hl hm))); clear hh hc hl hm c0 c1 c2 f0 f1 f2 f3
  by_cases hf : s.fused = true
  · obtain ⟨b1, b2⟩ := hfu hf
    clear hfu
    rw [hf] at c3
    by_cases h0 : s.fuse = 0
    · rw [h0] at c4
      have HF := Lib.hid (And.intro hf h0); clear hf h0
      go_enter Tryz.func95, Tryz.ntmps95
      go_wp2
      go_ret
      have K : Kept (fun k => k = g) w (w.setCell ⟨g, 5, none⟩ (.bool true)) := Kept.setCell (S := fun k => k = g) w ⟨g, 5, none⟩ _ rfl
      have e : s.burnt = { s with dead := true } := by rw [Flash.burnt, if_pos HF.out.1, if_pos HF.out.2]
      refine ⟨by simp [Flash.lasts, HF.out.1, HF.out.2], ?_, K⟩
      rw [e]
      refine dev_struct hd.out _ rfl rfl (fun _ => ⟨b1, b2⟩) K (fun a0 a1 h => ?_)
      simp [World.setCell, Array.getElem?_modify, h]
    · have h1 : (s.fuse == 0) = false := by simpa using h0
      have b3 : 1 ≤ s.fuse := by omega
      have HF := Lib.hid (And.intro hf h0); clear hf h0
      go_enter Tryz.func95, Tryz.ntmps95
      go_wp2
      go_ret
      have K : Kept (fun k => k = g) w (w.setCell ⟨g, 4, none⟩ (.int .i64 (s.fuse - 1))) := Kept.setCell (S := fun k => k = g) w ⟨g, 4, none⟩ _ rfl
      have e : s.burnt = { s with fuse := s.fuse - 1 } := by rw [Flash.burnt, if_pos HF.out.1, if_neg HF.out.2]
      refine ⟨by simp [Flash.lasts, HF.out.1, HF.out.2], ?_, K⟩
      rw [e]
      refine dev_struct hd.out _ rfl rfl (fun _ => ⟨by show 0 ≤ s.fuse - 1; omega, by show s.fuse - 1 ≤ _; omega⟩) K (fun a0 a1 h => ?_)
      simp [World.setCell, Array.getElem?_modify, h]
  · have hf' : s.fused = false := by simpa using hf
    rw [hf'] at c3
    clear hfu
    have HF := Lib.hid hf; clear hf
    have HF' := Lib.hid hf'; clear hf'
    go_enter Tryz.func95, Tryz.ntmps95
    go_wp2
    go_ret
    have e : s.burnt = s := by rw [Flash.burnt, if_neg HF.out]
    refine ⟨by simp [Flash.lasts, HF'.out], by rw [e]; exact hd.out, Kept.refl _ _⟩
theorem has_any (i : Int) (hd : Hid (Dev w g c m n s)) :
    Calls Tryz.prog 49 #[.pointer (some ⟨g, 0, none⟩), .int .i64 i] w fun e w' => e = .returned (.bool (decide (0 ≤ i ∧ i < (n : Int)))) ∧ w = w' := by
  by_cases h0 : 0 ≤ i
  · by_cases h1 : i < (n : Int)
    · go_enter Tryz.func49, Tryz.ntmps49
      go_wp2_with (go_at_call 79; refine (sectors_any hd).mono ?_; rintro e w' ⟨rfl, rfl⟩)
      go_ret
      exact ⟨by simp [h0, h1], rfl⟩
    · have h2 : decide (i < (n : Int)) = false := by simpa using h1
      go_enter Tryz.func49, Tryz.ntmps49
      go_wp2_with (go_at_call 79; refine (sectors_any hd).mono ?_; rintro e w' ⟨rfl, rfl⟩)
      go_ret
      exact ⟨by simp [h1], rfl⟩
  · have h2 : decide (0 ≤ i) = false := by simpa using h0
    go_enter Tryz.func49, Tryz.ntmps49
    go_wp2
    go_ret
    exact ⟨rfl, rfl⟩
end
end Go.Proofs.YtgnbmmceffolmaaGreatDoor
end
section
namespace Go.Proofs.YtgnbmmceffolmaaGreatDoor
open Go.RowKit Go.Maps
section
variable {g c m n : Nat} {s : Flash} {w : World}
/-- A sector's bytes, in the device's own memory. -/
def GaveSector (w : World) (c i : Nat) (e : Ending) (w' : World) : Prop :=
  ∃ cap : Nat, e = .returned (.slice (some ⟨c, i * 64, none⟩) 64 cap) ∧ 64 ≤ cap ∧ cap ≤ 9223372036854775807 ∧ w = w'
theorem sector_any (i : Nat) (ii : Int) (hii : ii = (i : Int)) (hi : i < n) (hd : Hid (Dev w g c m n s)) :
    Calls Tryz.prog 50 #[.pointer (some ⟨g, 0, none⟩), .int .i64 ii] w (GaveSector w c i) := by
  subst hii
  obtain ⟨rest, D, hh, hc, hm, ho, hl, hb, hn1, hn2, hcap, hgc, hfu⟩ := hd.out
  obtain ⟨⟨c0, c1, c2, c3, c4, c5⟩, _⟩ := rd6 hh
  have H := Lib.hid (And.intro hh (And.intro hc (And.intro hl hm))); clear hh hc hl hm c1 c2 c3 c4 c5
  have hcn : ¬ (n * 64 + rest.length = i * 64) := by omega
  go_enter Tryz.func50, Tryz.ntmps50
  go_wp2
  go_ret
  refine ⟨n * 64 + rest.length - i * 64, ?_, by omega, by omega, rfl⟩
  exact congrArg (fun k => Ending.returned (.slice (some ⟨c, i * 64, none⟩) k (n * 64 + rest.length - i * 64))) (by omega)
/-- The bytes of a sector. -/
def sec (l : List Nat) (i : Nat) : List Nat := (l.drop (i * 64)).take 64
theorem sec_len {l : List Nat} {n i : Nat} (hl : l.length = n * 64) (hi : i < n) : (sec l i).length = 64 := by
  unfold sec; rw [List.length_take, List.length_drop]; omega
theorem sec_get {l : List Nat} {i k : Nat} (hk : k < 64) : (sec l i).getD k 0 = l.getD (i * 64 + k) 0 := by
  unfold sec
  rw [List.getD_eq_getElem?_getD, List.getD_eq_getElem?_getD, List.getElem?_take_of_lt hk, List.getElem?_drop]
theorem add_flat (c o k : Nat) : (⟨c, o, none⟩ : Addr).add k = ⟨c, o + k, none⟩ := by unfold Addr.add; split <;> simp_all
theorem Dev.sec (h : Dev w g c m n s) {i : Nat} (hi : i < n) : Bs w w.heap.size (some ⟨c, i * 64, none⟩) (sec s.cur i) := by
  intro k hk
  rw [sec_len h.cur_len hi] at hk
  obtain ⟨h1, ad, e, h3, h4⟩ := h.bytes (i * 64 + k) (by rw [h.cur_len]; omega)
  injection e with e
  subst e
  rw [sec_get hk]
  refine ⟨h1, _, rfl, h3, ?_⟩
  rw [add_flat, Nat.zero_add] at h4
  rw [add_flat]
  exact h4
/-- What a Read leaves that returns a sector's bytes. -/
def ReadOk (w : World) (l : List Nat) (e : Ending) (w' : World) : Prop :=
  ∃ (g cap : Nat), e = .returned (.tuple #[.slice (some ⟨g, 0, none⟩) 64 cap, .int .i64 0]) ∧ w.heap.size ≤ g ∧ l.length = 64 ∧ Bs w' w'.heap.size (some ⟨g, 0, none⟩) l ∧ 64 ≤ cap ∧ cap ≤ maxLen ∧ Below w.heap.size w w'
theorem read_ok (i : Nat) (ii : Int) (hii : ii = (i : Int)) (hi : i < n) (hd : Hid (Dev w g c m n s)) (hdead : Hid (s.dead = false)) :
    Calls Tryz.prog 22 #[.pointer (some ⟨g, 0, none⟩), .int .i64 ii] w (ReadOk w (sec s.cur i)) := by
  subst hii
  have HL : Hid ((sec s.cur i).length = 64) := sec_len hd.out.cur_len hi
  have HS : Hid (Bs w w.heap.size (some ⟨c, i * 64, none⟩) (sec s.cur i)) := hd.out.sec hi
  have hz : decide (0 ≤ (i : Int) ∧ (i : Int) < (n : Int)) = true := by simp; omega
  go_enter Tryz.func22, Tryz.ntmps22
  go_wp2_with (first
    | (go_at_call 48; refine (dead_any hd).mono ?_; rw [hdead.out]; rintro e w' ⟨rfl, rfl⟩)
    | (go_at_call 49; refine (has_any _ hd).mono ?_; rw [hz]; rintro e w' ⟨rfl, rfl⟩)
    | (go_at_call 50; refine (sector_any i _ rfl hi hd).mono ?_; rintro e w' ⟨cap, rfl, hc1, hc2, rfl⟩)
    | (go_at_call 20; refine (clone_any _ _ _ _ _ _ (fun e => by cases e) HL (by omega) HS).mono ?_; rintro e w' ⟨v, rfl, hown, hbl⟩))
  obtain ⟨A1, cap1, rfl, hbs, hlen, hnc, hcm, hA1⟩ := own_bytes hown HS.out.lt
  go_ret2
  rcases hA1 with ⟨_, h0, _⟩ | ⟨g1, rfl, hg1, hg2⟩
  · omega
  · exact ⟨g1, cap1, rfl, hg1, HL.out, hbs, hnc, hcm, hbl⟩
/-- What a Read leaves that fails. -/
def ReadNo (w : World) (k : Int) (e : Ending) (w' : World) : Prop := e = .returned (.tuple #[.slice none 0 0, .int .i64 k]) ∧ w = w'
theorem read_dead (i : Int) (hd : Hid (Dev w g c m n s)) (hdead : Hid (s.dead = true)) :
    Calls Tryz.prog 22 #[.pointer (some ⟨g, 0, none⟩), .int .i64 i] w (ReadNo w 1) := by
  go_enter Tryz.func22, Tryz.ntmps22
  go_wp2_with (go_at_call 48; refine (dead_any hd).mono ?_; rw [hdead.out]; rintro e w' ⟨rfl, rfl⟩)
  go_ret2
  exact ⟨rfl, rfl⟩
theorem read_range (i : Int) (hi : i < 0 ∨ (n : Int) ≤ i) (hd : Hid (Dev w g c m n s)) (hdead : Hid (s.dead = false)) :
    Calls Tryz.prog 22 #[.pointer (some ⟨g, 0, none⟩), .int .i64 i] w (ReadNo w 2) := by
  have hz : decide (0 ≤ i ∧ i < (n : Int)) = false := by simp; omega
  clear hi
  go_enter Tryz.func22, Tryz.ntmps22
  go_wp2_with (first
    | (go_at_call 48; refine (dead_any hd).mono ?_; rw [hdead.out]; rintro e w' ⟨rfl, rfl⟩)
    | (go_at_call 49; refine (has_any _ hd).mono ?_; rw [hz]; rintro e w' ⟨rfl, rfl⟩))
  go_ret2
  exact ⟨rfl, rfl⟩
/-! ### Barrier -/
def Flash.barrier (s : Flash) : Flash := if s.dead = true then s else if s.lasts = true then { s.burnt with old := fun _ => none } else s.burnt
def Flash.barrierErr (s : Flash) : Int := if s.dead = true then 1 else if s.lasts = true then 0 else 1
theorem burnt_cur (s : Flash) : s.burnt.cur = s.cur ∧ s.burnt.old = s.old ∧ s.burnt.wr = s.wr := by
  unfold Flash.burnt
  split
  · split <;> exact ⟨rfl, rfl, rfl⟩
  · exact ⟨rfl, rfl, rfl⟩
def BarrierDid (w : World) (g c m n : Nat) (s : Flash) (k : Int) (e : Ending) (w' : World) : Prop := e = .returned (.int .i64 k) ∧ Dev w' g c m n s ∧ Kept (fun k => k = g ∨ k = m) w w'
/-- 'clear' of the map of old sectors, at the operation. -/
theorem wpList_clear_own {H : Type} {P : Program} {ops : Array Oper} {rest : List Oper} {o : Oper} {a : Act} {w : World} {Q : Exit → Act → World → Prop} (hgd : o.guard = none) (x : Operand) (t : TypeId)
    (ho : o.op = .call { callee := .builtin .clear, args := #[x], argTypes := #[t] }) (k e : TypeId) (ht : P.underlying t = some (.map k e)) {R : Value → Option (DataW H × List MemPlace)} {b N : Nat} {D : DataW H} (hx : a.eval x = .map (some b)) (h : w.ownsMap P k R b N D)
    (hK : ∀ w', w'.ownsMap P k R b 0 (.map []) → w.grownBy w' (some b) → wpList P ops Q rest (a.put o.dst (.tuple #[])) w') : wpList P ops Q (o :: rest) a w := by
  refine wpList_plain hgd fun K hK' => ?_
  obtain ⟨w', hrun, h1, h2⟩ := run_clear_own (ty := o.type) h ht
  unfold Oper.wp
  simp [execOp, ho, resolve, invoke, builtin, hx, hrun, Result.andThen]
  exact hK' _ _ (hK w' h1 h2)
theorem barrier_any (hd : Hid (Dev w g c m n s)) :
    Calls Tryz.prog 64 #[.pointer (some ⟨g, 0, none⟩)] w (BarrierDid w g c m n s.barrier s.barrierErr) := by
  by_cases h0 : s.dead = true
  · have e1 : s.barrier = s := by rw [Flash.barrier, if_pos h0]
    have e2 : s.barrierErr = 1 := by rw [Flash.barrierErr, if_pos h0]
    rw [e1, e2]
    have H0 := Lib.hid h0; clear h0 e1 e2
    go_enter Tryz.func64, Tryz.ntmps64
    go_wp2_with (go_at_call 48; refine (dead_any hd).mono ?_; rw [H0.out]; rintro e w' ⟨rfl, rfl⟩)
    go_ret
    exact ⟨rfl, hd.out, Kept.refl _ _⟩
  · have h0' : s.dead = false := by simpa using h0
    by_cases h1 : s.lasts = true
    · have e1 : s.barrier = { s.burnt with old := fun _ => none } := by rw [Flash.barrier, if_neg h0, if_pos h1]
      have e2 : s.barrierErr = 0 := by rw [Flash.barrierErr, if_neg h0, if_pos h1]
      rw [e1, e2]
      have H0 := Lib.hid h0'; clear h0 h0' e1 e2
      have H1 := Lib.hid h1; clear h1
      go_enter Tryz.func64, Tryz.ntmps64
      go_wp2_with (first
        | (go_at_call 48; refine (dead_any hd).mono ?_; rw [H0.out]; rintro e w' ⟨rfl, rfl⟩)
        | (go_at_call 95; refine (burn_any hd).mono ?_; rw [H1.out]; rintro e w1 ⟨rfl, hd1, hk1⟩; have HD := Lib.hid hd1; have HK := Lib.hid hk1; obtain ⟨rest, D, hh, hc, hm, hrest⟩ := hd1; obtain ⟨⟨_, c1, _⟩, _⟩ := rd6 hh; have HM := Lib.hid (And.intro hh (And.intro hc (And.intro hm hrest))); clear hh hc hm hrest hk1)
        | (with_reducible refine wpList_clear_own rfl (.tmp 13) 95 rfl _ _ Tryz.underlying95 rfl HM.out.2.2.1 ?_; intro w2 hown hg2))
      go_ret
      obtain ⟨hh, hc, hm, ho, hl, hb, hn1, hn2, hcap, hgc, hfu⟩ := HM.out
      obtain ⟨a1, a2, a3⟩ := HD.out.apart
      obtain ⟨l1, l2, l3⟩ := HD.out.lt
      have K2 : Kept (fun k => k = m) w1 w2 := Kept.of_grown hg2 (fun k e => by injection e with e; exact e.symm)
      refine ⟨rfl, ⟨rest, .map [], ?_, ?_, hown, old_empty n, hl, hb, hn1, hn2, hcap, hgc, hfu⟩, (HK.out.mono fun k _ e => .inl e).trans (K2.mono fun k _ e => .inr e)⟩
      · exact (K2.block g l1 a2).trans hh
      · exact (K2.block c l2 a3).trans hc
    · have h1' : s.lasts = false := by simpa using h1
      have e1 : s.barrier = s.burnt := by rw [Flash.barrier, if_neg h0, if_neg h1]
      have e2 : s.barrierErr = 1 := by rw [Flash.barrierErr, if_neg h0, if_neg h1]
      rw [e1, e2]
      have H0 := Lib.hid h0'; clear h0 h0' e1 e2 h1
      have H1 := Lib.hid h1'; clear h1'
      go_enter Tryz.func64, Tryz.ntmps64
      go_wp2_with (first
        | (go_at_call 48; refine (dead_any hd).mono ?_; rw [H0.out]; rintro e w' ⟨rfl, rfl⟩)
        | (go_at_call 95; refine (burn_any hd).mono ?_; rw [H1.out]; rintro e w1 ⟨rfl, hd1, hk1⟩))
      go_ret
      exact ⟨rfl, hd1, hk1.mono fun k _ e => .inl e⟩
end
end Go.Proofs.YtgnbmmceffolmaaGreatDoor
end
section
set_option maxRecDepth 100000
namespace Go.Proofs.YtgnbmmceffolmaaGreatDoor
open Go.RowKit Go.Maps

/-! ### two laws on rows -/
theorem splice_nil {α : Type} (L : List α) (o : Nat) : splice L o [] = L := by simp [splice]
/-- 'copy' into a row, whatever the source. -/
theorem wpList_copy_into {P : Program} {w : World} {ops : Array Oper} {rest : List Oper} {o : Oper} {a : Act} {Q : Exit → Act → World → Prop} (hgd : o.guard = none) (d s : Operand) (dT sT : TypeId)
    (ho : o.op = .call { callee := .builtin .copy, args := #[d, s], argTypes := #[dT, sT] }) (elem : TypeId) (hu : P.underlying dT = some (.slice elem)) (hsz : (P.info? elem).map (·.size) = some 1)
    (dp sp : Option Addr) (dLen dCap sLen sCap : Nat) (hd : a.eval d = .slice dp dLen dCap) (hs : a.eval s = .slice sp sLen sCap)
    (g off : Nat) (cur : List Value) (t : TypeId) (hg : w.heap[g]? = some (.cells cur.toArray t (0, 0))) (cs : List Value) (hn : cs.length = Nat.min sLen dLen)
    (hpos : 0 < cs.length → dp = some ⟨g, off, none⟩ ∧ ∃ ad, sp = some ad ∧ ∀ j v, cs[j]? = some v → w.cell? (ad.add j) = some v)
    (hfit : off + cs.length ≤ cur.length) (h1 : ∀ v ∈ cs, v.oneCell' = true)
    (k : Nat) (hk : cs.length = k)
    (h : ∀ w', w'.heap[g]? = some (.cells (splice cur off cs).toArray t (0, 0)) → Kept (fun k => k = g) w w' → wpList P ops Q rest (a.put o.dst (.int .i64 (k : Int))) w') :
    wpList P ops Q (o :: rest) a w := by
  subst hk
  by_cases h0 : cs.length = 0
  · obtain rfl : cs = [] := List.eq_nil_of_length_eq_zero h0
    refine wpList_copy_nothing hgd d s dT sT ho elem hu hsz dp sp dLen dCap sLen sCap hd hs (by simpa using hn.symm) ?_
    exact h w (by rw [splice_nil]; exact hg) (Kept.refl _ _)
  · obtain ⟨rfl, ad, rfl, hsrc⟩ := hpos (by omega)
    refine wpList_copy_own hgd d s dT sT ho elem hu hsz g off dLen dCap ad sLen sCap hd hs cur.toArray t hg cs hn hsrc (by simpa using hfit) h1 ?_
    exact h _ (by simpa [splice] using setRow_heap w g _ _ t _ hg) (Kept.setRow w g _ rfl)
/-- 'clear' of a slice within a row, empty or not. -/
theorem wpList_clear_row {P : Program} {w : World} {ops : Array Oper} {rest : List Oper} {o : Oper} {a : Act} {Q : Exit → Act → World → Prop} (hgd : o.guard = none) (x : Operand) (st : TypeId)
    (ho : o.op = .call { callee := .builtin .clear, args := #[x], argTypes := #[st] }) (elem : TypeId) (hu : P.underlying st = some (.slice elem)) (z : Value) (hv : ∀ w, (zeroValue elem).run P w = .ok z w) (hz : z.cells = #[z]) (hz1 : z.oneCell' = true)
    (A : Option Addr) (n c : Nat) (hx : a.eval x = .slice A n c) (g off : Nat) (hA : 0 < n → A = some ⟨g, off, none⟩) (cur : List Value) (t : TypeId) (hg : w.heap[g]? = some (.cells cur.toArray t (0, 0))) (hfit : off + n ≤ cur.length)
    (h : ∀ w', w'.heap[g]? = some (.cells (splice cur off (List.replicate n z)).toArray t (0, 0)) → Kept (fun k => k = g) w w' → wpList P ops Q rest (a.put o.dst (.tuple #[])) w') :
    wpList P ops Q (o :: rest) a w := by
  refine wpList_plain hgd fun K hK' => ?_
  cases n with
  | zero =>
    have hrun : (Builtin.clear_ #[st] o.type #[.slice A 0 c]).run P w = .ok (.tuple #[]) w := by cases A <;> simp [Builtin.clear_, run_underlying hu]
    unfold Oper.wp
    simp [execOp, ho, resolve, invoke, builtin, hx, hrun, Result.andThen]
    exact hK' _ _ (h w (by rw [List.replicate_zero, splice_nil]; exact hg) (Kept.refl _ _))
  | succ n =>
    obtain rfl := hA (Nat.succ_pos n)
    have hzc : (Builtin.zeroCells z.cells (n + 1)).toList = List.replicate (n + 1) z := by
      rw [hz]
      simp only [Builtin.zeroCells]
      apply List.ext_getElem
      · simp
      · intro i h1 h2
        simp [Nat.mod_one]
    have hst := run_storeCells_at (P := P) g off t (List.replicate (n + 1) z) 0 cur.toArray w hg (by simpa using hfit) (by intro v hv'; rw [List.eq_of_mem_replicate hv']; exact hz1)
    have hrun : (Builtin.clear_ #[st] o.type #[.slice (some ⟨g, off, none⟩) (n + 1) c]).run P w = .ok (.tuple #[]) (w.setRow g (cur.take off ++ List.replicate (n + 1) z ++ cur.drop (off + (n + 1))).toArray) := by
      simp only [Nat.add_zero, List.length_replicate] at hst
      simp [Builtin.clear_, run_underlying hu, hv, hzc, hst]
    unfold Oper.wp
    simp [execOp, ho, resolve, invoke, builtin, hx, hrun, Result.andThen]
    refine hK' _ _ (h _ ?_ (Kept.setRow w g _ rfl))
    rw [setRow_heap w g _ _ t _ hg]
    simp [splice]

theorem run_arrayAt {P : Program} (w : World) (A : Option Addr) (n cap k : Nat) {t e : TypeId} (ht : P.underlying t = some (.array k e)) (h : k ≤ n) :
    (Instr.arrayAt t (.slice A n cap)).run P w = .ok (.pointer A) w := by
  simp [Instr.arrayAt, run_underlying ht, Nat.not_lt.2 h, Result.andThen]
/-- A whole array loaded out of the middle of a block, in a region that stands still. -/
theorem wpStill_load_mid {P : Program} {ops : Array Oper} {rest : List Oper} {o : Oper} {a : Act} {w : World} {Q : Act → Prop} (hw : Region.wanted o (yielded ops a.tmps) = true) (ty : TypeId) (x : Operand) (ho : o.op = .load ty x)
    (b off : Nat) (hx : a.eval x = .pointer (some ⟨b, off, none⟩)) (cs : List Value) (d : TypeDesc) (hc : w.rangeAt b off cs) (hu : P.underlying ty = some d) (hd : d.isRow = true) (hi : (P.info? ty).map (·.size) = some cs.length)
    (h : wpStill P ops w Q rest (a.put o.dst (.agg cs.toArray))) : wpStill P ops w Q (o :: rest) a := by
  refine wpStill_step fun K hK => ?_
  rw [if_pos hw]
  unfold Oper.still execOp
  simp only [ho, hx, Instr.loadAt, Instr.sureAddr, Sem.run_bind, Sem.run_pure, Result.andThen_ok, run_loadVar_mid w b off ty cs d hc hu hd hi]
  exact ⟨rfl, hK _ h⟩

/-- 's[k:]' of a slice into a row: where it begins is told only where something is left. -/
theorem run_slice_tail {P : Program} {t e : TypeId} (ht : P.underlying t = some (.slice e)) (hsz : (P.info? e).map (·.size) = some 1) (c off n cap k : Nat) (hk : k ≤ n) (hn : n ≤ cap) :
    ∃ A, (k < n → A = some ⟨c, off + k, none⟩) ∧ ∀ w, (Instr.sliceAt t (.slice (some ⟨c, off, none⟩) n cap) (some (.int .i64 (k : Int))) none none).run P w = .ok (.slice A (n - k) (cap - k)) w := by
  refine ⟨if cap = k then some ⟨c, off, none⟩ else some ((⟨c, off, none⟩ : Addr).add k), fun h => ?_, fun w => ?_⟩
  · rw [if_neg (by omega), Addr.add_mid]
  · cases hq : P.info? e with
    | none => simp [hq] at hsz
    | some i =>
      have hs : i.size = 1 := by simpa [hq] using hsz
      simp [Instr.sliceAt, Instr.slice, Instr.sliceBounds, Instr.sliceBound, asIntOf, run_underlying ht, sizeOf, typeInfo, hq, hs, hk, Result.andThen]
theorem wpList_slice_tail {P : Program} {w : World} {ops : Array Oper} {rest : List Oper} {o : Oper} {a : Act} {Q : Exit → Act → World → Prop} (hgd : o.guard = none) (x lo : Operand) (t : TypeId)
    (ho : o.op = .slice t x (some lo) none none) (e : TypeId) (ht : P.underlying t = some (.slice e)) (hsz : (P.info? e).map (·.size) = some 1) (c off n cap k : Nat)
    (hx : a.eval x = .slice (some ⟨c, off, none⟩) n cap) (hlo : a.eval lo = .int .i64 (k : Int)) (hk : k ≤ n) (hn : n ≤ cap)
    (h : ∀ A, (k < n → A = some ⟨c, off + k, none⟩) → wpList P ops Q rest (a.put o.dst (.slice A (n - k) (cap - k))) w) : wpList P ops Q (o :: rest) a w := by
  refine wpList_plain hgd fun K hK' => ?_
  obtain ⟨A, hA, hrun⟩ := run_slice_tail ht hsz c off n cap k hk hn
  unfold Oper.wp
  simp [execOp, ho, hx, hlo, hrun, Result.andThen]
  exact hK' _ _ (h A hA)
theorem u8_cells : Value.cells (.int .u8 0) = #[.int .u8 0] := rfl
theorem u8_one : (Value.int .u8 0).oneCell' = true := rfl
/-! ### what a Write makes of a device -/
def pad (b : List Nat) : List Nat := b ++ List.replicate (64 - b.length) 0
def putSec (l : List Nat) (i : Nat) (p : List Nat) : List Nat := l.take (i * 64) ++ p ++ l.drop (i * 64 + 64)
theorem pad_len {b : List Nat} (h : b.length ≤ 64) : (pad b).length = 64 := by unfold pad; rw [List.length_append, List.length_replicate]; omega
theorem pad_lt {b : List Nat} (h : ∀ x ∈ b, x < 256) : ∀ x ∈ pad b, x < 256 := fun x hx => by
  rcases List.mem_append.1 hx with h1 | h1
  · exact h x h1
  · rw [List.eq_of_mem_replicate h1]; decide
theorem putSec_len {l p : List Nat} {n i : Nat} (hl : l.length = n * 64) (hi : i < n) (hp : p.length = 64) : (putSec l i p).length = n * 64 := by
  unfold putSec; rw [List.length_append, List.length_append, List.length_take, List.length_drop, hp]; omega
theorem putSec_lt {l p : List Nat} {i : Nat} (hl : ∀ x ∈ l, x < 256) (hp : ∀ x ∈ p, x < 256) : ∀ x ∈ putSec l i p, x < 256 := fun x hx => by
  unfold putSec at hx
  rcases List.mem_append.1 hx with h1 | h1
  · rcases List.mem_append.1 h1 with h2 | h2
    · exact hl x (List.mem_of_mem_take h2)
    · exact hp x h2
  · exact hl x (List.mem_of_mem_drop h1)
/-- The two stores of a Write. -/
theorem splice_pad {l b : List Nat} {n i : Nat} {rest : List Value} (hl : l.length = n * 64) (hi : i < n) (hb : b.length ≤ 64) :
    splice (splice (vals l ++ rest) (i * 64) (vals b)) (i * 64 + b.length) (List.replicate (64 - b.length) (.int .u8 0)) = vals (putSec l i (pad b)) ++ rest := by
  have hz : List.replicate (64 - b.length) (Value.int .u8 0) = vals (List.replicate (64 - b.length) 0) := by simp [vals]
  have e1 : splice (vals l ++ rest) (i * 64) (vals b) = vals (l.take (i * 64)) ++ vals b ++ vals (l.drop (i * 64 + b.length)) ++ rest := by
    unfold splice
    rw [vals_length, List.take_append_of_le_length (by rw [vals_length]; omega), List.drop_append_of_le_length (by rw [vals_length]; omega)]
    simp [vals, List.map_take, List.map_drop]
  rw [e1, hz]
  unfold splice
  have h1 : (vals (l.take (i * 64)) ++ vals b).length = i * 64 + b.length := by rw [List.length_append, vals_length, vals_length, List.length_take]; omega
  have e2 : (vals (l.take (i * 64)) ++ vals b ++ vals (l.drop (i * 64 + b.length)) ++ rest).take (i * 64 + b.length) = vals (l.take (i * 64)) ++ vals b := by
    rw [List.append_assoc, List.take_append_of_le_length (by omega), List.take_of_length_le (by omega)]
  have e3 : (vals (l.take (i * 64)) ++ vals b ++ vals (l.drop (i * 64 + b.length)) ++ rest).drop (i * 64 + b.length + (vals (List.replicate (64 - b.length) 0)).length) = vals (l.drop (i * 64 + 64)) ++ rest := by
    rw [vals_length, List.length_replicate, List.append_assoc, List.drop_append, h1, List.drop_eq_nil_of_le (by omega), List.nil_append, show i * 64 + b.length + (64 - b.length) - (i * 64 + b.length) = 64 - b.length by omega,
      List.drop_append_of_le_length (by rw [vals_length, List.length_drop]; omega)]
    unfold vals
    rw [← List.map_drop, List.drop_drop, show i * 64 + b.length + (64 - b.length) = i * 64 + 64 by omega]
  rw [e2, e3]
  simp [putSec, pad, vals]
def Flash.wrote (s : Flash) (i : Nat) (b : List Nat) : Flash :=
  { s with cur := putSec s.cur i (pad b), old := fun k => if k = i then some ((s.old i).getD (sec s.cur i)) else s.old k, wr := s.wr + 1 }
def Flash.writeErr (s : Flash) (n : Nat) (i : Int) (b : List Nat) : Int :=
  if s.dead = true then 1 else if i < 0 ∨ (n : Int) ≤ i then 2 else if 64 < b.length then 3 else if s.lasts = true then 0 else 1
def Flash.write (s : Flash) (n : Nat) (i : Int) (b : List Nat) : Flash :=
  if s.dead = true ∨ i < 0 ∨ (n : Int) ≤ i ∨ 64 < b.length then s else if s.lasts = true then s.burnt.wrote i.toNat b else s.burnt
theorem old_put {D : DataW Value} {n i : Nat} {old : Nat → Option (List Nat)} {l : List Nat} (h : OldIs D n old) (hm : IsMap D) (hi : i < n) (hl : l.length = 64) (hb : ∀ x ∈ l, x < 256) :
    OldIs (D.put (.int .i64 (i : Int)) (.held (oldVal l))) n (fun k => if k = i then some l else old k) := by
  refine ⟨fun k hk => ?_, fun x hx => ?_, fun k l' hl' z => ?_, fun k hk => ?_, fun k l' hl' => ?_⟩
  · by_cases e : k = i
    · subst e
      rw [has_put_same hm (isKey_int _), if_pos rfl]; rfl
    · rw [has_put_other (fun e' => e (by injection e' with _ e'; omega)), h.has k hk, if_neg e]
  · by_cases e : x = (i : Int)
    · exact ⟨i, hi, e⟩
    · rw [has_put_other (fun e' => e (by injection e'))] at hx
      exact h.keys x hx
  · by_cases e : k = i
    · subst e
      rw [if_pos rfl] at hl'
      injection hl' with hl'
      subst hl'
      exact atKey_put_same hm (isKey_int _) _ _
    · rw [if_neg e] at hl'
      rw [atKey_put_other (fun e' => e (by injection e' with _ e'; omega))]
      exact h.at_ k l' hl' z
  · rw [if_neg (by omega)]; exact h.none k hk
  · by_cases e : k = i
    · rw [if_pos e] at hl'
      injection hl' with hl'
      subst hl'
      exact ⟨hl, hb⟩
    · rw [if_neg e] at hl'
      exact h.len k l' hl'
theorem zero_info : (Tryz.prog.info? 152).map (fun i => (i.zero, i.size)) = some (some (oldVal (List.replicate 64 0)), 64) := by kernel_rfl
theorem zero64 (w : World) : (zeroValue 152).run Tryz.prog w = .ok (oldVal (List.replicate 64 0)) w := (zero_of_info zero_info).1 w
theorem size64 : (Tryz.prog.info? 152).map (·.size) = some 64 := (zero_of_info zero_info).2
/-- What a look-up of an old sector yields. -/
theorem old_look {D : DataW Value} {n i : Nat} {old : Nat → Option (List Nat)} (h : OldIs D n old) (hi : i < n) {v : Value} {ps : List MemPlace} (hv : rawElem v = some (D.atKey (.int .i64 (i : Int)) (.held (oldVal (List.replicate 64 0))), ps)) :
    v = oldVal ((old i).getD (List.replicate 64 0)) := by
  unfold rawElem at hv
  injection hv with hv
  injection hv with hv _
  cases ho : old i with
  | none =>
    have hh := h.has i hi
    rw [ho] at hh
    rw [atKey_of_not_has hh] at hv
    injection hv
  | some l =>
    rw [h.at_ i l ho] at hv
    injection hv
theorem old_shape {D : DataW Value} {n i : Nat} {old : Nat → Option (List Nat)} (h : OldIs D n old) (hi : i < n) {v : Value} {ps : List MemPlace} (hv : rawElem v = some (D.atKey (.int .i64 (i : Int)) (.held (oldVal (List.replicate 64 0))), ps)) :
    ∃ cs : List Value, v = .agg cs.toArray ∧ cs.length = 64 ∧ ∀ u ∈ cs, u.oneCell' = true := by
  have e := old_look h hi hv
  refine ⟨_, e, ?_, vals_one _⟩
  rw [vals_length]
  cases ho : old i with
  | none => rfl
  | some l => exact (h.len i l ho).1
/-- A whole variable stored, the world behind it under a name. -/
theorem wpList_store_var {P : Program} {ops : Array Oper} {rest : List Oper} {o : Oper} {a : Act} {w : World} {Q : Exit → Act → World → Prop} (hgd : o.guard = none) (ty : TypeId) (x y : Operand) (ho : o.op = .store ty x y)
    (g : Nat) (cs : List Value) (hx : a.eval x = .pointer (some ⟨g, 0, none⟩)) (hy : a.eval y = .agg cs.toArray)
    (t : TypeId) (hg : ∃ old : Array Value, w.heap[g]? = some (.cells old t (0, 0)) ∧ old.size = cs.length) (hi : (P.info? ty).map (·.size) = some cs.length)
    (h1 : ∀ u ∈ cs, u.oneCell' = true)
    (h : ∀ w', w'.heap[g]? = some (.cells cs.toArray t (0, 0)) → Kept (fun k => k = g) w w' → wpList P ops Q rest (a.put o.dst undef) w') : wpList P ops Q (o :: rest) a w :=
  let ⟨old, hg, hold⟩ := hg
  wpList_store_row hgd ty x y ho g cs.toArray hx hy t old hg (by simpa using hi) (by simpa using hold) (all_oneCell_toArray h1) (h _ (setRow_heap w g _ _ t _ hg) (Kept.setRow w g _ rfl))
section
variable {g c m n : Nat} {s : Flash} {w w' : World}
theorem dev_turned {N : Nat} {D' : DataW Value} {old' : Nat → Option (List Nat)} (h : Dev w g c m n s) (hk : Kept (fun k => k = m) w w') (hm' : w'.ownsMap Tryz.prog 3 rawElem m N D') (ho' : OldIs D' n old') : Dev w' g c m n { s with old := old' } := by
  obtain ⟨h1, h2, h3⟩ := h.apart
  obtain ⟨l1, l2, l3⟩ := h.lt
  obtain ⟨rest, D, hh, hc, hm, ho, hl, hb, hn1, hn2, hcap, hgc, hfu⟩ := h
  exact ⟨rest, D', (hk.block g l1 h2).trans hh, (hk.block c l2 h3).trans hc, ownsMap_size hm', ho', hl, hb, hn1, hn2, hcap, hgc, hfu⟩
/-- Bytes that came in lie neither in the struct nor in the map. -/
theorem bs_apart (h : Dev w g c m n s) {B : Nat} {A : Option Addr} {b : List Nat} (hb : Bs w B A b) : ∀ ad, A = some ad → 0 < b.length → ¬ (ad.block = g ∨ ad.block = m) := fun ad e hl => by
  subst e
  obtain ⟨h1, ad', e, h3, h4⟩ := hb 0 hl
  injection e with e
  subst e
  obtain ⟨rest, D, hh, hc, ⟨es, clock, hm, _⟩, ho, _⟩ := h
  rintro (rfl | rfl)
  · unfold World.cell? at h4
    rw [add_block, hh] at h4
    dsimp only at h4
    split at h4
    · cases h4
    · generalize (ad.add 0).off = o at h4
      match o, h4 with
      | 0, h4 => cases h4
      | 1, h4 => cases h4
      | 2, h4 => cases h4
      | 3, h4 => cases h4
      | 4, h4 => cases h4
      | 5, h4 => cases h4
      | o + 6, h4 => simp at h4
  · unfold World.cell? at h4
    rw [add_block, hm] at h4
    cases h4
theorem dev_row {rest : List Value} {D : DataW Value} {cur' : List Nat} (h : Dev w g c m n s)
    (hh : w.heap[g]? = some (.cells #[.slice (some ⟨c, 0, none⟩) (n * 64) (n * 64 + rest.length), .map (some m), .int .i64 (s.wr : Int), .bool s.fused, .int .i64 s.fuse, .bool s.dead] 97 (0, 0)))
    (hm : w.ownsMap Tryz.prog 3 rawElem m (Maps.size D) D) (ho : OldIs D n s.old)
    (hcap : n * 64 + rest.length ≤ 9223372036854775807) (hk : Kept (fun k => k = c) w w') (hc' : w'.heap[c]? = some (.cells (vals cur' ++ rest).toArray 5 (0, 0))) (hl : cur'.length = n * 64) (hb : ∀ x ∈ cur', x < 256) : Dev w' g c m n { s with cur := cur' } := by
  obtain ⟨h1, h2, h3⟩ := h.apart
  obtain ⟨l1, l2, l3⟩ := h.lt
  exact ⟨rest, D, (hk.block g l1 h1).trans hh, hc', ownsMap_block hm (hk.block m l3 (fun e => h3 e.symm)), ho, hl, hb, h.n_le.1, h.n_le.2, hcap, h1, h.fuse_in⟩
def WriteDid (w : World) (g c m n : Nat) (s : Flash) (k : Int) (e : Ending) (w' : World) : Prop := e = .returned (.int .i64 k) ∧ Dev w' g c m n s ∧ Kept (devS g c m) w w'
set_option maxHeartbeats 1000000 in
theorem write_new (A : Option Addr) (B k cb : Nat) (b : List Nat) (i : Nat) (hi : i < n) (hk : k ≤ 64) (hl : Hid (b.length = k)) (hb : Hid (Bs w B A b))
    (hd : Hid (Dev w g c m n s)) (hdead : Hid (s.dead = false)) (hlast : Hid (s.lasts = true)) (hwr : s.wr < 4611686018427387904) (ho : Hid (s.old i = none)) :
    Calls Tryz.prog 92 #[.pointer (some ⟨g, 0, none⟩), .int .i64 (i : Int), .slice A k cb] w (WriteDid w g c m n (s.burnt.wrote i b) 0) := by
  have hz : decide (0 ≤ (i : Int) ∧ (i : Int) < (n : Int)) = true := by simp; omega
  have hn := hd.out.n_le
  have hkey := keyInt i (by omega)
  have HK := Lib.hid hkey; clear hkey
  have hwr1 : s.burnt.wr < 4611686018427387904 := by rw [(burnt_cur s).2.2]; exact hwr
  go_enter Tryz.func92, Tryz.ntmps92
  go_wp2_with (first
    | (go_at_call 48; refine (dead_any hd).mono ?_; rw [hdead.out]; rintro e w' ⟨rfl, rfl⟩)
    | (go_at_call 49; refine (has_any _ hd).mono ?_; rw [hz]; rintro e w' ⟨rfl, rfl⟩)
    | (go_at_call 95; refine (burn_any hd).mono ?_; rw [hlast.out]; rintro e w1 ⟨rfl, hd1, hk1⟩; have HD := Lib.hid hd1; have HK1 := Lib.hid hk1; obtain ⟨rest, D, hh, hc, hm, hrest⟩ := hd1; obtain ⟨⟨-, c1, -⟩, -⟩ := rd6 hh; have HM := Lib.hid (And.intro hh (And.intro hc (And.intro hm hrest))); clear hh hc hm hrest hk1)
    | (go_at_call 50; refine (sector_any i _ rfl hi HD).mono ?_; rintro e w' ⟨cap, rfl, hc1, hc2, rfl⟩)
    | (at_lookup; refine wpList_lookup_own_ok _ rfl _ _ 95 rfl 3 152 lawI Tryz.underlying95 rawElem (zero64 _) (.held (oldVal (List.replicate 64 0))) [] rfl m _ D rfl HM.out.2.2.1 _ _ rfl HK.out ?_; intro v ps hv; obtain ⟨cs, rfl, hcs, hcs1⟩ := old_shape HM.out.2.2.2.1 hi hv; rw [HM.out.2.2.2.1.has i hi, (burnt_cur s).2.1, ho.out]; have HCS := Lib.hid (And.intro hcs (And.intro (show (Tryz.prog.info? 152).map (·.size) = some cs.length by rw [hcs]; exact size64) hcs1)); clear hv hcs hcs1)
    | (with_reducible refine wpList_store_var rfl 152 (.tmp 8) (.tmp 32) rfl w1.heap.size cs rfl rfl 152 ?_ HCS.out.2.1 HCS.out.2.2 ?_
       · exact ⟨_, heap_alloc_new _ _, by rw [HCS.out.1]; rfl⟩
       intro w2 hw2 hk2; clear hw2))
  have HD2 : Hid (Dev w2 g c m n s.burnt ∧ Kept (fun k => k = g) w w2) := by
    obtain ⟨l1, l2, l3⟩ := HD.out.lt
    have ka : Kept (fun k => k = w1.heap.size) w1 w2 := (Kept.alloc w1 _).trans hk2
    exact ⟨HD.out.kept ka (by omega) (by omega) (by omega), HK1.out.trans' ka (fun k e h => absurd h (by have := HK1.out.size; omega))⟩
  obtain ⟨rest2, D2, hh, hc, hm, hrest⟩ := HD2.out.1
  obtain ⟨⟨-, c2, -⟩, -⟩ := rd6 hh
  have HR : Hid (w2.rangeAt c (i * 64) (vals (sec s.burnt.cur i)) ∧ (Tryz.prog.info? 152).map (·.size) = some (vals (sec s.burnt.cur i)).length) := by
    refine ⟨fun j v hv => ?_, by rw [vals_length, sec_len HD2.out.1.cur_len hi]; exact size64⟩
    obtain ⟨hj, rfl⟩ := vals_get hv
    obtain ⟨_, ad, e, _, hcell⟩ := HD2.out.1.sec hi j hj
    injection e with e
    subst e
    rw [add_flat] at hcell
    exact hcell
  have harr := fun w => run_arrayAt (P := Tryz.prog) w (some ⟨c, i * 64, none⟩) 64 cap 64 Tryz.underlying152 (Nat.le_refl _)
  have HM2 := Lib.hid (And.intro hh (And.intro hc (And.intro hm hrest))); clear hh hc hm hrest c1 HM
  refine wp_region_still_tail 8 (by kernel_rfl) (by kernel_rfl) ?_
  simp only [List.take_succ_cons, List.take_zero, List.drop_succ_cons, List.drop_zero]
  iterate 7 still_step
  refine wpStill_load_mid rfl 152 (.tmp 42) rfl c (i * 64) rfl (vals (sec s.burnt.cur i)) _ HR.out.1 Tryz.underlying152 rfl HR.out.2 ?_
  clear harr c2
  refine wpStill_nil ?_
  change wpList _ _ _ _ _ w2.drew
  have HD3 : Hid (Dev w2.drew g c m n s.burnt ∧ Kept (fun k => k = g) w w2.drew) := ⟨HD2.out.1, HD2.out.2.drewN 1⟩
  have HM3 : Hid (w2.drew.ownsMap Tryz.prog 3 rawElem m (Maps.size D2) D2 ∧ OldIs D2 n s.burnt.old) := ⟨HM2.out.2.2.1, HM2.out.2.2.2.1⟩
  have HSZ : Hid (Maps.size D2 < maxLen) := by
    have h1 := (size_dirty HM3.out.1 HM3.out.2).2
    have h2 := dirty_le n s.burnt.old
    unfold Hid maxLen
    omega
  generalize w2.drew = w3 at HD3 HM3 ⊢
  clear HD2 HM2 hk2 HD HK1
  have HB : Hid (∀ ad, A = some ad → 0 < b.length → ¬ (ad.block = g ∨ ad.block = m)) := bs_apart hd.out hb.out
  have HI : Hid ((Tryz.prog.info? 5).map (·.size) = some 1 ∧ (∀ w, (zeroValue 5).run Tryz.prog w = .ok (.int .u8 0) w) ∧ (vals b).length = k ∧ (vals b).length = Nat.min k 64) :=
    ⟨by kernel_rfl, fun _ => by kernel_rfl, by rw [vals_length, hl.out], by rw [vals_length, hl.out]; exact (Nat.min_eq_left hk).symm⟩
  go_wp2_with (first
    | (at_mapUpdate; refine wpList_mapUpdate_own _ rfl _ _ _ 95 rfl 3 152 lawI Tryz.underlying95 rawElem m _ D2 rfl HM3.out.1 HSZ.out (.int .i64 (i : Int)) (oldVal (sec s.burnt.cur i)) (.int .i64 (i : Int)) rfl rfl HK.out (.held (oldVal (sec s.burnt.cur i))) [] rfl ?_; intro w4 hown4 hg4
       have HD4 : Hid (Dev w4 g c m n { s.burnt with old := fun k => if k = i then some (sec s.burnt.cur i) else s.burnt.old k } ∧ Kept (devS g c m) w w4 ∧ Bs w4 B A b) := by
         have k4 : Kept (fun k => k = m) w3 w4 := Kept.of_grown hg4 (fun _ e => (Option.some.inj e).symm)
         have k5 : Kept (fun k => k = g ∨ k = m) w w4 := (HD3.out.2.mono fun k _ e => .inl e).trans (k4.mono fun k _ e => .inr e)
         refine ⟨dev_turned HD3.out.1 k4 hown4 (old_put HM3.out.2 HM3.out.1.isMap hi (sec_len HD3.out.1.cur_len hi) (fun x hx => ?_)), k5.mono (fun k _ e => e.elim .inl (fun e => .inr (.inr e))), hb.out.kept k5 HB.out⟩
         unfold sec at hx
         exact HD3.out.1.cur_lt x (List.mem_of_mem_drop (List.mem_of_mem_take hx))
       clear hown4 hg4
       obtain ⟨rest4, D4, hh, hc, hm, hrest⟩ := HD4.out.1
       have HM4 := Lib.hid (And.intro hh (And.intro hc (And.intro hm hrest))); clear hh hc hm hrest)
    | (with_reducible refine wpList_copy_into rfl (.tmp 45) (.tmp 46) 27 27 rfl 5 Tryz.underlying27 HI.out.1 (some ⟨c, i * 64, none⟩) A 64 cap k cb rfl rfl c (i * 64) (vals s.burnt.cur ++ rest4) 5 HM4.out.2.1 (vals b) HI.out.2.2.2 ?_ ?_ (vals_one b) k HI.out.2.2.1 ?_
       · intro hp
         refine ⟨rfl, ?_⟩
         rw [vals_length] at hp
         obtain ⟨_, ad, rfl, _, _⟩ := HD4.out.2.2 0 hp
         exact ⟨ad, rfl, HD4.out.2.2.cells⟩
       · have h1 := HI.out.2.2.1
         have h2 := HD4.out.1.cur_len
         rw [List.length_append, h1, vals_length]
         have h3 : s.burnt.cur.length = n * 64 := h2
         omega
       intro w5 hc5 hk5
       have HC5 := Lib.hid hc5; clear hc5)
    | (with_reducible refine wpList_slice_tail rfl (.tmp 44) (.tmp 47) 27 rfl 5 Tryz.underlying27 HI.out.1 c (i * 64) 64 cap k rfl rfl hk hc1 ?_; intro A6 hA6; have HA6 := Lib.hid hA6; clear hA6)
    | (with_reducible refine wpList_clear_row rfl (.tmp 48) 27 rfl 5 Tryz.underlying27 (.int .u8 0) HI.out.2.1 u8_cells u8_one A6 (64 - k) (cap - k) rfl c (i * 64 + k) ?_ (splice (vals s.burnt.cur ++ rest4) (i * 64) (vals b)) 5 HC5.out ?_ ?_
       · intro h
         exact HA6.out (by omega)
       · have h1 := HI.out.2.2.1
         have h3 : s.burnt.cur.length = n * 64 := HD4.out.1.cur_len
         rw [length_splice _ _ _ (by rw [List.length_append, h1, vals_length]; omega), List.length_append, vals_length]
         omega
       intro w6 hc6 hk6
       have HD6 : Hid (Dev w6 g c m n { s.burnt with old := fun k => if k = i then some (sec s.burnt.cur i) else s.burnt.old k, cur := putSec s.burnt.cur i (pad b) } ∧ Kept (devS g c m) w w6) := by
         have h3 : s.burnt.cur.length = n * 64 := HD4.out.1.cur_len
         have h4 : b.length ≤ 64 := by rw [hl.out]; exact hk
         have k6 : Kept (fun k => k = c) w4 w6 := hk5.trans hk6
         have e := splice_pad (rest := rest4) h3 hi h4
         rw [hl.out] at e
         rw [e] at hc6
         refine ⟨dev_row HD4.out.1 HM4.out.1 HM4.out.2.2.1 HM4.out.2.2.2.1 HM4.out.2.2.2.2.2.2.2.2.1 k6 hc6 (putSec_len h3 hi (pad_len h4)) (putSec_lt HD4.out.1.cur_lt (pad_lt hb.out.lt)), HD4.out.2.1.trans (k6.mono fun k _ e => .inr (.inl e))⟩
       clear hc6
       obtain ⟨rest6, D6, hh, hc, hm, hrest⟩ := HD6.out.1
       obtain ⟨⟨-, -, c2, -⟩, -, -, f2, -⟩ := rd6 hh
       have HM6 := Lib.hid (And.intro hh (And.intro hc (And.intro hm hrest))); clear hh hc hm hrest))
  go_ret
  have K7 : Kept (fun k => k = g) w6 (w6.setCell ⟨g, 2, none⟩ (.int .i64 ((s.burnt.wr : Int) + 1))) := Kept.setCell (S := fun k => k = g) w6 ⟨g, 2, none⟩ _ rfl
  have e : s.burnt.wrote i b = { s.burnt with old := fun k => if k = i then some (sec s.burnt.cur i) else s.burnt.old k, cur := putSec s.burnt.cur i (pad b), wr := s.burnt.wr + 1 } := by
    have h0 : s.burnt.old i = none := by rw [(burnt_cur s).2.1]; exact ho.out
    unfold Flash.wrote
    rw [h0]; rfl
  refine ⟨rfl, ?_, HD6.out.2.trans (K7.mono fun k _ e => .inl e)⟩
  rw [e]
  refine dev_struct HD6.out.1 _ rfl rfl HD6.out.1.fuse_in K7 (fun a0 a1 h => ?_)
  simp [World.setCell, Array.getElem?_modify, h]
set_option maxHeartbeats 1000000 in
theorem write_again (A : Option Addr) (B k cb : Nat) (b : List Nat) (i : Nat) (hi : i < n) (hk : k ≤ 64) (hl : Hid (b.length = k)) (hb : Hid (Bs w B A b))
    (hd : Hid (Dev w g c m n s)) (hdead : Hid (s.dead = false)) (hlast : Hid (s.lasts = true)) (hwr : s.wr < 4611686018427387904) (lo : List Nat) (ho : Hid (s.old i = some lo)) :
    Calls Tryz.prog 92 #[.pointer (some ⟨g, 0, none⟩), .int .i64 (i : Int), .slice A k cb] w (WriteDid w g c m n (s.burnt.wrote i b) 0) := by
  have hz : decide (0 ≤ (i : Int) ∧ (i : Int) < (n : Int)) = true := by simp; omega
  have hn := hd.out.n_le
  have hkey := keyInt i (by omega)
  have HK := Lib.hid hkey; clear hkey
  have hwr1 : s.burnt.wr < 4611686018427387904 := by rw [(burnt_cur s).2.2]; exact hwr
  have HB : Hid (∀ ad, A = some ad → 0 < b.length → ¬ (ad.block = g ∨ ad.block = m)) := bs_apart hd.out hb.out
  have HI : Hid ((Tryz.prog.info? 5).map (·.size) = some 1 ∧ (∀ w, (zeroValue 5).run Tryz.prog w = .ok (.int .u8 0) w) ∧ (vals b).length = k ∧ (vals b).length = Nat.min k 64) :=
    ⟨by kernel_rfl, fun _ => by kernel_rfl, by rw [vals_length, hl.out], by rw [vals_length, hl.out]; exact (Nat.min_eq_left hk).symm⟩
  go_enter Tryz.func92, Tryz.ntmps92
  go_wp2_with (first
    | (go_at_call 48; refine (dead_any hd).mono ?_; rw [hdead.out]; rintro e w' ⟨rfl, rfl⟩)
    | (go_at_call 49; refine (has_any _ hd).mono ?_; rw [hz]; rintro e w' ⟨rfl, rfl⟩)
    | (go_at_call 95; refine (burn_any hd).mono ?_; rw [hlast.out]; rintro e w1 ⟨rfl, hd1, hk1⟩; have HD := Lib.hid hd1; have HK1 := Lib.hid hk1; obtain ⟨rest, D, hh, hc, hm, hrest⟩ := hd1; obtain ⟨⟨-, c1, -⟩, -⟩ := rd6 hh; have HM := Lib.hid (And.intro hh (And.intro hc (And.intro hm hrest))); clear hh hc hm hrest hk1)
    | (go_at_call 50; refine (sector_any i _ rfl hi HD).mono ?_; rintro e w' ⟨cap, rfl, hc1, hc2, rfl⟩)
    | (at_lookup; refine wpList_lookup_own_ok _ rfl _ _ 95 rfl 3 152 lawI Tryz.underlying95 rawElem (zero64 _) (.held (oldVal (List.replicate 64 0))) [] rfl m _ D rfl HM.out.2.2.1 _ _ rfl HK.out ?_; intro v ps hv; obtain ⟨cs, rfl, hcs, hcs1⟩ := old_shape HM.out.2.2.2.1 hi hv; rw [HM.out.2.2.2.1.has i hi, (burnt_cur s).2.1, ho.out]; have HCS := Lib.hid (And.intro hcs (And.intro (show (Tryz.prog.info? 152).map (·.size) = some cs.length by rw [hcs]; exact size64) hcs1)); clear hv hcs hcs1)
    | (with_reducible refine wpList_store_var rfl 152 (.tmp 8) (.tmp 32) rfl w1.heap.size cs rfl rfl 152 ?_ HCS.out.2.1 HCS.out.2.2 ?_
       · exact ⟨_, heap_alloc_new _ _, by rw [HCS.out.1]; rfl⟩
       intro w2 hw2 hk2; clear hw2
       have HD4 : Hid (Dev w2 g c m n s.burnt ∧ Kept (devS g c m) w w2 ∧ Bs w2 B A b) := by
         obtain ⟨l1, l2, l3⟩ := HD.out.lt
         have ka : Kept (fun k => k = w1.heap.size) w1 w2 := (Kept.alloc w1 _).trans hk2
         have k5 : Kept (fun k => k = g) w w2 := HK1.out.trans' ka (fun k e h => absurd h (by have := HK1.out.size; omega))
         exact ⟨HD.out.kept ka (by omega) (by omega) (by omega), k5.mono (fun k _ e => .inl e), hb.out.kept k5 (fun ad e h h' => HB.out ad e h (.inl h'))⟩
       clear hk2
       obtain ⟨rest4, D4, hh, hc, hm, hrest⟩ := HD4.out.1
       have HM4 := Lib.hid (And.intro hh (And.intro hc (And.intro hm hrest))); clear hh hc hm hrest)
    | (with_reducible refine wpList_copy_into rfl (.tmp 45) (.tmp 46) 27 27 rfl 5 Tryz.underlying27 HI.out.1 (some ⟨c, i * 64, none⟩) A 64 cap k cb rfl rfl c (i * 64) (vals s.burnt.cur ++ rest4) 5 HM4.out.2.1 (vals b) HI.out.2.2.2 ?_ ?_ (vals_one b) k HI.out.2.2.1 ?_
       · intro hp
         refine ⟨rfl, ?_⟩
         rw [vals_length] at hp
         obtain ⟨_, ad, rfl, _, _⟩ := HD4.out.2.2 0 hp
         exact ⟨ad, rfl, HD4.out.2.2.cells⟩
       · have h1 := HI.out.2.2.1
         have h2 := HD4.out.1.cur_len
         rw [List.length_append, h1, vals_length]
         have h3 : s.burnt.cur.length = n * 64 := h2
         omega
       intro w5 hc5 hk5
       have HC5 := Lib.hid hc5; clear hc5)
    | (with_reducible refine wpList_slice_tail rfl (.tmp 44) (.tmp 47) 27 rfl 5 Tryz.underlying27 HI.out.1 c (i * 64) 64 cap k rfl rfl hk hc1 ?_; intro A6 hA6; have HA6 := Lib.hid hA6; clear hA6)
    | (with_reducible refine wpList_clear_row rfl (.tmp 48) 27 rfl 5 Tryz.underlying27 (.int .u8 0) HI.out.2.1 u8_cells u8_one A6 (64 - k) (cap - k) rfl c (i * 64 + k) ?_ (splice (vals s.burnt.cur ++ rest4) (i * 64) (vals b)) 5 HC5.out ?_ ?_
       · intro h
         exact HA6.out (by omega)
       · have h1 := HI.out.2.2.1
         have h3 : s.burnt.cur.length = n * 64 := HD4.out.1.cur_len
         rw [length_splice _ _ _ (by rw [List.length_append, h1, vals_length]; omega), List.length_append, vals_length]
         omega
       intro w6 hc6 hk6
       have HD6 : Hid (Dev w6 g c m n { s.burnt with cur := putSec s.burnt.cur i (pad b) } ∧ Kept (devS g c m) w w6) := by
         have h3 : s.burnt.cur.length = n * 64 := HD4.out.1.cur_len
         have h4 : b.length ≤ 64 := by rw [hl.out]; exact hk
         have k6 : Kept (fun k => k = c) w2 w6 := hk5.trans hk6
         have e := splice_pad (rest := rest4) h3 hi h4
         rw [hl.out] at e
         rw [e] at hc6
         refine ⟨dev_row HD4.out.1 HM4.out.1 HM4.out.2.2.1 HM4.out.2.2.2.1 HM4.out.2.2.2.2.2.2.2.2.1 k6 hc6 (putSec_len h3 hi (pad_len h4)) (putSec_lt HD4.out.1.cur_lt (pad_lt hb.out.lt)), HD4.out.2.1.trans (k6.mono fun k _ e => .inr (.inl e))⟩
       clear hc6
       obtain ⟨rest6, D6, hh, hc, hm, hrest⟩ := HD6.out.1
       obtain ⟨⟨-, -, c2, -⟩, -, -, f2, -⟩ := rd6 hh
       have HM6 := Lib.hid (And.intro hh (And.intro hc (And.intro hm hrest))); clear hh hc hm hrest))
  go_ret
  have K7 : Kept (fun k => k = g) w6 (w6.setCell ⟨g, 2, none⟩ (.int .i64 ((s.burnt.wr : Int) + 1))) := Kept.setCell (S := fun k => k = g) w6 ⟨g, 2, none⟩ _ rfl
  have e : s.burnt.wrote i b = { s.burnt with cur := putSec s.burnt.cur i (pad b), wr := s.burnt.wr + 1 } := by
    have h0 : s.burnt.old i = some lo := by rw [(burnt_cur s).2.1]; exact ho.out
    have h1 : (fun k => if k = i then some ((s.burnt.old i).getD (sec s.burnt.cur i)) else s.burnt.old k) = s.burnt.old := by
      funext k
      by_cases e : k = i
      · subst e; rw [if_pos rfl, h0]; rfl
      · rw [if_neg e]
    unfold Flash.wrote
    rw [h1]
  refine ⟨rfl, ?_, HD6.out.2.trans (K7.mono fun k _ e => .inl e)⟩
  rw [e]
  refine dev_struct HD6.out.1 _ rfl rfl HD6.out.1.fuse_in K7 (fun a0 a1 h => ?_)
  simp [World.setCell, Array.getElem?_modify, h]
end
end Go.Proofs.YtgnbmmceffolmaaGreatDoor
end
section
set_option maxRecDepth 100000
namespace Go.Proofs.YtgnbmmceffolmaaGreatDoor
open Go.RowKit Go.Maps
section
variable {g c m n : Nat} {s : Flash} {w : World}
theorem write_dead (i : Int) (v : Value) (hd : Hid (Dev w g c m n s)) (hdead : Hid (s.dead = true)) :
    Calls Tryz.prog 92 #[.pointer (some ⟨g, 0, none⟩), .int .i64 i, v] w (WriteDid w g c m n s 1) := by
  go_enter Tryz.func92, Tryz.ntmps92
  go_wp2_with (go_at_call 48; refine (dead_any hd).mono ?_; rw [hdead.out]; rintro e w' ⟨rfl, rfl⟩)
  go_ret
  exact ⟨rfl, hd.out, Kept.refl _ _⟩
theorem write_range (i : Int) (v : Value) (hi : i < 0 ∨ (n : Int) ≤ i) (hd : Hid (Dev w g c m n s)) (hdead : Hid (s.dead = false)) :
    Calls Tryz.prog 92 #[.pointer (some ⟨g, 0, none⟩), .int .i64 i, v] w (WriteDid w g c m n s 2) := by
  have hz : decide (0 ≤ i ∧ i < (n : Int)) = false := by simp; omega
  clear hi
  go_enter Tryz.func92, Tryz.ntmps92
  go_wp2_with (first
    | (go_at_call 48; refine (dead_any hd).mono ?_; rw [hdead.out]; rintro e w' ⟨rfl, rfl⟩)
    | (go_at_call 49; refine (has_any _ hd).mono ?_; rw [hz]; rintro e w' ⟨rfl, rfl⟩))
  go_ret
  exact ⟨rfl, hd.out, Kept.refl _ _⟩
theorem write_long (i : Int) (A : Option Addr) (k cb : Nat) (hi1 : 0 ≤ i) (hi2 : i < (n : Int)) (hk : 64 < k) (hkm : k ≤ 9223372036854775807) (hd : Hid (Dev w g c m n s)) (hdead : Hid (s.dead = false)) :
    Calls Tryz.prog 92 #[.pointer (some ⟨g, 0, none⟩), .int .i64 i, .slice A k cb] w (WriteDid w g c m n s 3) := by
  have hz : decide (0 ≤ i ∧ i < (n : Int)) = true := by simp; omega
  go_enter Tryz.func92, Tryz.ntmps92
  go_wp2_with (first
    | (go_at_call 48; refine (dead_any hd).mono ?_; rw [hdead.out]; rintro e w' ⟨rfl, rfl⟩)
    | (go_at_call 49; refine (has_any _ hd).mono ?_; rw [hz]; rintro e w' ⟨rfl, rfl⟩))
  go_ret
  exact ⟨rfl, hd.out, Kept.refl _ _⟩
theorem write_burnt (i : Int) (A : Option Addr) (k cb : Nat) (hi1 : 0 ≤ i) (hi2 : i < (n : Int)) (hk : k ≤ 64) (hd : Hid (Dev w g c m n s)) (hdead : Hid (s.dead = false)) (hlast : Hid (s.lasts = false)) :
    Calls Tryz.prog 92 #[.pointer (some ⟨g, 0, none⟩), .int .i64 i, .slice A k cb] w (WriteDid w g c m n s.burnt 1) := by
  have hz : decide (0 ≤ i ∧ i < (n : Int)) = true := by simp; omega
  go_enter Tryz.func92, Tryz.ntmps92
  go_wp2_with (first
    | (go_at_call 48; refine (dead_any hd).mono ?_; rw [hdead.out]; rintro e w' ⟨rfl, rfl⟩)
    | (go_at_call 49; refine (has_any _ hd).mono ?_; rw [hz]; rintro e w' ⟨rfl, rfl⟩)
    | (go_at_call 95; refine (burn_any hd).mono ?_; rw [hlast.out]; rintro e w1 ⟨rfl, hd1, hk1⟩))
  go_ret
  exact ⟨rfl, hd1, hk1.mono fun k _ e => .inl e⟩
theorem write_any (i : Int) (A : Option Addr) (B k cb : Nat) (b : List Nat) (hkm : k ≤ 9223372036854775807) (hl : Hid (b.length = k)) (hb : Hid (Bs w B A b)) (hd : Hid (Dev w g c m n s)) (hwr : s.wr < 4611686018427387904) :
    Calls Tryz.prog 92 #[.pointer (some ⟨g, 0, none⟩), .int .i64 i, .slice A k cb] w (WriteDid w g c m n (s.write n i b) (s.writeErr n i b)) := by
  unfold Flash.write Flash.writeErr
  by_cases h1 : s.dead = true
  · rw [if_pos (.inl h1), if_pos h1]
    exact write_dead i _ hd h1
  have h1' : s.dead = false := by simpa using h1
  by_cases h2 : i < 0 ∨ (n : Int) ≤ i
  · rw [if_pos (by rcases h2 with h2 | h2; exact .inr (.inl h2); exact .inr (.inr (.inl h2))), if_neg h1, if_pos h2]
    exact write_range i _ h2 hd h1'
  by_cases h3 : 64 < b.length
  · rw [if_pos (.inr (.inr (.inr h3))), if_neg h1, if_neg h2, if_pos h3]
    have := hl.out
    exact write_long i A k cb (by omega) (by omega) (by omega) hkm hd h1'
  have h0 : ¬ (s.dead = true ∨ i < 0 ∨ (n : Int) ≤ i ∨ 64 < b.length) := by
    rintro (h | h | h | h)
    · exact h1 h
    · exact h2 (.inl h)
    · exact h2 (.inr h)
    · exact h3 h
  rw [if_neg h0, if_neg h1, if_neg h2, if_neg h3]
  have hk : k ≤ 64 := by have := hl.out; omega
  obtain ⟨j, rfl⟩ : ∃ j : Nat, i = (j : Int) := ⟨i.toNat, by omega⟩
  by_cases h4 : s.lasts = true
  · rw [if_pos h4, if_pos h4, Int.toNat_natCast]
    cases ho : s.old j with
    | none => exact write_new A B k cb b j (by omega) hk hl hb hd h1' h4 hwr ho
    | some l => exact write_again A B k cb b j (by omega) hk hl hb hd h1' h4 hwr l ho
  · rw [if_neg h4, if_neg h4]
    exact write_burnt _ A k cb (by omega) (by omega) hk hd h1' (Lib.hid (by simpa using h4))
end
end Go.Proofs.YtgnbmmceffolmaaGreatDoor
end
end
section
section
set_option maxRecDepth 100000
namespace Go.Proofs.YtgnbmmceffolmaaGreatDoor
open Go.RowKit Go.Maps

/-- Bools, and pairs of integers, read through a slice. -/
def Bls (w : World) (B : Nat) (A : Option Addr) (l : List Bool) : Prop := ∀ k, k < l.length → ∃ ad, A = some ad ∧ ad.block < B ∧ w.cell? (ad.add k) = some (.bool (l.getD k false))
def Trs (w : World) (B : Nat) (A : Option Addr) (l : List (Int × Int)) : Prop := ∀ k, k < l.length → ∃ ad, A = some ad ∧ ad.block < B ∧ w.cell? (ad.add (k * 2)) = some (.int .i64 (l.getD k (0, 0)).1) ∧ w.cell? (ad.add (k * 2 + 1)) = some (.int .i64 (l.getD k (0, 0)).2)
theorem Bls.below {B C : Nat} {w w' : World} {A : Option Addr} {l : List Bool} (h : Bls w B A l) (hb : Below C w w') (hB : B ≤ C) : Bls w' B A l := fun k hk => by
  obtain ⟨ad, h2, h3, h4⟩ := h k hk
  exact ⟨ad, h2, h3, (hb.cell (by rw [add_block]; omega)).trans h4⟩
theorem Trs.below {B C : Nat} {w w' : World} {A : Option Addr} {l : List (Int × Int)} (h : Trs w B A l) (hb : Below C w w') (hB : B ≤ C) : Trs w' B A l := fun k hk => by
  obtain ⟨ad, h2, h3, h4, h5⟩ := h k hk
  exact ⟨ad, h2, h3, (hb.cell (by rw [add_block]; omega)).trans h4, (hb.cell (by rw [add_block]; omega)).trans h5⟩
/-- A row of integers in a block of its own. -/
theorem Bls.up {w : World} {B C : Nat} {A : Option Addr} {l : List Bool} (h : Bls w B A l) (hB : B ≤ C) : Bls w C A l := fun k hk => by
  obtain ⟨ad, h2, h3, h4⟩ := h k hk
  exact ⟨ad, h2, by omega, h4⟩
theorem Trs.up {w : World} {B C : Nat} {A : Option Addr} {l : List (Int × Int)} (h : Trs w B A l) (hB : B ≤ C) : Trs w C A l := fun k hk => by
  obtain ⟨ad, h2, h3, h4⟩ := h k hk
  exact ⟨ad, h2, by omega, h4⟩
def ivals (L : List Nat) : List Value := L.map fun x => .int .i64 ((x : Nat) : Int)
def IRow (w : World) (G : Nat) (L : List Nat) : Prop := w.heap[G]? = some (.cells (ivals L).toArray 3 (0, 0))
theorem ivals_at {L : List Nat} {j : Nat} (hj : j < L.length) : (ivals L)[j]? = some (.int .i64 ((L.getD j 0 : Nat) : Int)) := by
  unfold ivals
  rw [List.getElem?_map, List.getElem?_eq_getElem hj, List.getD_eq_getElem?_getD, List.getElem?_eq_getElem hj]; rfl
theorem IRow.cell {w : World} {G : Nat} {L : List Nat} (h : IRow w G L) {j : Nat} (hj : j < L.length) : w.cell? ⟨G, j, none⟩ = some (.int .i64 ((L.getD j 0 : Nat) : Int)) ∧ w.frozen? ⟨G, j, none⟩ = false := by
  refine ⟨?_, frozen_of_row w G j _ _ h⟩
  rw [cell_of_row w G j _ _ _ h, List.getElem?_toArray]
  exact ivals_at hj
theorem IRow.set {w : World} {G : Nat} {L : List Nat} (h : IRow w G L) (j x : Nat) : IRow (w.setCell ⟨G, j, none⟩ (.int .i64 (x : Int))) G (L.set j x) := by
  unfold IRow
  rw [heap_setCell_same w G j _ _ _ h]
  simp [ivals, List.map_set]
/-! ### how many bytes are kept -/
def tearHits (j : Nat) (t : Int × Int) : Bool := t.1 == (j : Int) && (decide (1 ≤ t.2) && decide (t.2 < 64))
def keptBy (keep : List Bool) (T : List (Int × Int)) (j : Nat) : Nat :=
  match T.find? (tearHits j) with
  | some t => t.2.toNat
  | none => if keep.getD j false = true then 64 else 0
theorem getD_set {L : List Nat} {j x k : Nat} (hj : j < L.length) : (L.set j x).getD k 0 = if k = j then x else L.getD k 0 := by
  rw [List.getD_eq_getElem?_getD, List.getD_eq_getElem?_getD, List.getElem?_set]
  by_cases e : j = k
  · subst e; simp [hj]
  · rw [if_neg e, if_neg (fun h => e h.symm)]
end Go.Proofs.YtgnbmmceffolmaaGreatDoor
end
section
set_option maxRecDepth 100000
namespace Go.Proofs.YtgnbmmceffolmaaGreatDoor
open Go.RowKit Go.Maps
end Go.Proofs.YtgnbmmceffolmaaGreatDoor
end
section
namespace Go.Proofs.YtgnbmmceffolmaaGreatDoor
open Go.RowKit Go.Maps

/-- One byte behind a crash. -/
def crashByte (cur : List Nat) (old : Nat → Option (List Nat)) (keep : List Bool) (T : List (Int × Int)) (p : Nat) : Nat :=
  match old (p / 64) with
  | some l => if p % 64 < keptBy keep T (dirtyCount (p / 64) old) then cur.getD p 0 else l.getD (p % 64) 0
  | none => cur.getD p 0
def crashed (n : Nat) (cur : List Nat) (old : Nat → Option (List Nat)) (keep : List Bool) (T : List (Int × Int)) : List Nat := (List.range (n * 64)).map (crashByte cur old keep T)
theorem putSec_get {l q : List Nat} {n i p : Nat} (hl : l.length = n * 64) (hi : i < n) (hq : q.length = 64) : (putSec l i q).getD p 0 = if p / 64 = i then q.getD (p % 64) 0 else l.getD p 0 := by
  unfold putSec
  rw [List.getD_eq_getElem?_getD]
  by_cases h1 : p < i * 64
  · rw [if_neg (by omega), List.append_assoc, List.getElem?_append_left (by rw [List.length_take]; omega), List.getElem?_take_of_lt h1, ← List.getD_eq_getElem?_getD]
  · by_cases h2 : p < i * 64 + 64
    · rw [if_pos (by omega), List.getElem?_append_left (by rw [List.length_append, List.length_take, hq]; omega), List.getElem?_append_right (by rw [List.length_take]; omega), List.length_take, Nat.min_eq_left (by omega), show p - i * 64 = p % 64 by omega, ← List.getD_eq_getElem?_getD]
    · rw [if_neg (by omega), List.getElem?_append_right (by rw [List.length_append, List.length_take, hq]; omega), List.length_append, List.length_take, hq, Nat.min_eq_left (by omega), List.getElem?_drop, show i * 64 + 64 + (p - (i * 64 + 64)) = p by omega, ← List.getD_eq_getElem?_getD]
/-- The contents when k dirty sectors have been done. -/
structure Done (n : Nat) (cur : List Nat) (old : Nat → Option (List Nat)) (keep : List Bool) (T : List (Int × Int)) (k : Nat) (l : List Nat) : Prop where
  len : l.length = n * 64
  lt : ∀ x ∈ l, x < 256
  get : ∀ p, p < n * 64 → l.getD p 0 = if (old (p / 64)).isSome = true ∧ dirtyCount (p / 64) old < k then crashByte cur old keep T p else cur.getD p 0
end Go.Proofs.YtgnbmmceffolmaaGreatDoor
end
end
section
set_option maxRecDepth 100000
namespace Go.Proofs.YtgnbmmceffolmaaGreatDoor
open Go.ChangeShapes Go.WideShapes Go.ChangeAt Go.RowKit
/-- A slice value that came in: nil, or with bounds. -/
def SlOk (A : Option Addr) (n cap : Nat) : Prop := (A = none → cap = 0 ∧ n = 0) ∧ n ≤ cap ∧ cap ≤ 9223372036854775807
section
variable {H : Type} {enc : TypeId × Value → H} {P : Program} {W : World}
end
/-- The call k of a law's list: two numbers, bytes, bools and tears. -/
structure OpIs (w : World) (B : Nat) (ad : Addr) (kd ix : Int) (Ab : Option Addr) (nb cb : Nat) (lb : List Nat) (Ak : Option Addr) (nk ck : Nat) (lk : List Bool) (At : Option Addr) (nt ct : Nat) (lt : List (Int × Int)) : Prop where
  blk : ad.block < B
  c0 : w.cell? (ad.add 0) = some (.int .i64 kd)
  c1 : w.cell? (ad.add 1) = some (.int .i64 ix)
  c2 : w.cell? (ad.add 2) = some (.slice Ab nb cb)
  c3 : w.cell? (ad.add 3) = some (.slice Ak nk ck)
  c4 : w.cell? (ad.add 4) = some (.slice At nt ct)
  ib : -9223372036854775808 ≤ ix ∧ ix ≤ 9223372036854775807
  sb : SlOk Ab nb cb
  lb_ : lb.length = nb
  bs : Bs w B Ab lb
  sk : SlOk Ak nk ck
  lk_ : lk.length = nk
  bls : Bls w B Ak lk
  st : SlOk At nt ct
  lt_ : lt.length = nt
  trs : Trs w B At lt
/-- All calls of a law's list. -/
def OpsAt (w : World) (B : Nat) (A : Option Addr) (n : Nat) : Prop :=
  ∀ k, k < n → ∃ ad kd ix Ab nb cb lb Ak nk ck lk At nt ct lt, A = some ad ∧ OpIs w B (ad.add (k * 5)) kd ix Ab nb cb lb Ak nk ck lk At nt ct lt
theorem OpIs.below {w w' : World} {B C : Nat} {ad : Addr} {kd ix : Int} {Ab : Option Addr} {nb cb : Nat} {lb : List Nat} {Ak : Option Addr} {nk ck : Nat} {lk : List Bool} {At : Option Addr} {nt ct : Nat} {lt : List (Int × Int)}
    (h : OpIs w B ad kd ix Ab nb cb lb Ak nk ck lk At nt ct lt) (hb : Below C w w') (hB : B ≤ C) : OpIs w' B ad kd ix Ab nb cb lb Ak nk ck lk At nt ct lt := by
  have q : ∀ j, w'.cell? (ad.add j) = w.cell? (ad.add j) := fun j => hb.cell (by rw [add_block]; have := h.blk; omega)
  exact ⟨h.blk, (q 0).trans h.c0, (q 1).trans h.c1, (q 2).trans h.c2, (q 3).trans h.c3, (q 4).trans h.c4, h.ib, h.sb, h.lb_, h.bs.below hb hB, h.sk, h.lk_, h.bls.below hb hB, h.st, h.lt_, h.trs.below hb hB⟩
theorem OpsAt.below {w w' : World} {B C : Nat} {A : Option Addr} {n : Nat} (h : OpsAt w B A n) (hb : Below C w w') (hB : B ≤ C) : OpsAt w' B A n := fun k hk => by
  obtain ⟨ad, kd, ix, Ab, nb, cb, lb, Ak, nk, ck, lk, At, nt, ct, lt, e, h1⟩ := h k hk
  exact ⟨ad, kd, ix, Ab, nb, cb, lb, Ak, nk, ck, lk, At, nt, ct, lt, e, h1.below hb hB⟩
section
variable {H : Type} {enc : TypeId × Value → H} {W : World}
end
end Go.Proofs.YtgnbmmceffolmaaGreatDoor
end
