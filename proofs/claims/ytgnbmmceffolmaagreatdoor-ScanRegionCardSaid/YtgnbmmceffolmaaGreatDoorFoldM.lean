/-
  The texts RgMath, RgWalk, RgCalls, HdWalk, HdEncode, HdRef, RgOpen, RgAwake of this proof, one behind the other.
-/
import Derived.Test.YtgnbmmceffolmaaGreatDoorFoldI
import Derived.Test.YtgnbmmceffolmaaGreatDoorFoldL
import Derived.Deep.DeepCutAuto
import Derived.Deep.CutBlock
import Derived.Test.YtgnbmmceffolmaaGreatDoorFoldB
section
set_option maxRecDepth 100000
namespace Go.Proofs.YtgnbmmceffolmaaGreatDoor
open Go.RowKit
namespace Rg
/-- Writes one after the other, up to the first error. -/
def run (fs : Flash) (n : Nat) : List (Int × List Nat) → Flash × Int
  | [] => (fs, 0)
  | x :: t => if fs.writeErr n x.1 x.2 = 0 then run (fs.write n x.1 x.2) n t else (fs.write n x.1 x.2, fs.writeErr n x.1 x.2)
def items (l : Sb.L) (slot seq : Int) (st : List Nat) (k n : Nat) : List (Int × List Nat) := (List.range' k n).map fun i => (Pk.sec l slot i, Pk.frame l slot seq st i)
theorem items_len (l : Sb.L) (slot seq : Int) (st : List Nat) (k n : Nat) : (items l slot seq st k n).length = n := by unfold items; rw [List.length_map, List.length_range']
theorem run_cons (fs : Flash) (n : Nat) (x : Int × List Nat) (t : List (Int × List Nat)) : run fs n (x :: t) = if fs.writeErr n x.1 x.2 = 0 then run (fs.write n x.1 x.2) n t else (fs.write n x.1 x.2, fs.writeErr n x.1 x.2) := rfl
/-- The last write of those done so far. -/
theorem run_snoc : ∀ (xs : List (Int × List Nat)) (fs : Flash) (n : Nat) (x : Int × List Nat) (f : Flash), run fs n xs = (f, 0) → run fs n (xs ++ [x]) = (f.write n x.1 x.2, f.writeErr n x.1 x.2)
  | [], fs, n, x, f, h => by
    obtain rfl : fs = f := congrArg Prod.fst h
    rw [List.nil_append, run_cons]
    split
    · next e => rw [e]; rfl
    · rfl
  | y :: t, fs, n, x, f, h => by
    rw [run_cons] at h
    rw [List.cons_append, run_cons]
    split at h
    · next e => rw [if_pos e]; exact run_snoc t _ n x f h
    · next e => exact absurd (congrArg Prod.snd h) e
/-- What comes behind an error is not written. -/
theorem run_stop : ∀ (xs ys : List (Int × List Nat)) (fs : Flash) (n : Nat), (run fs n xs).2 ≠ 0 → run fs n (xs ++ ys) = run fs n xs
  | [], ys, fs, n, h => absurd rfl h
  | y :: t, ys, fs, n, h => by
    rw [run_cons] at h ⊢
    rw [List.cons_append, run_cons]
    split
    · next e => rw [if_pos e] at h; exact run_stop t ys _ n h
    · rfl
theorem items_next (l : Sb.L) (slot seq : Int) (st : List Nat) (k i : Nat) : items l slot seq st k (i + 1) = items l slot seq st k i ++ [(Pk.sec l slot (k + i), Pk.frame l slot seq st (k + i))] := by
  unfold items
  rw [List.range'_1_concat, List.map_append]
  rfl
theorem items_split (l : Sb.L) (slot seq : Int) (st : List Nat) (k i n : Nat) (h : i < n) : ∃ ys, items l slot seq st k n = items l slot seq st k (i + 1) ++ ys := by
  obtain ⟨m, rfl⟩ : ∃ m, n = (i + 1) + m := ⟨n - (i + 1), by omega⟩
  refine ⟨items l slot seq st (k + (i + 1)) m, ?_⟩
  unfold items
  rw [← List.map_append]
  have e := List.range'_append_1 (s := k) (m := i + 1) (n := m)
  rw [e]
/-- One more write: it is done, or it is the first one that fails. -/
theorem run_step {l : Sb.L} {slot seq : Int} {st : List Nat} {k i n N : Nat} {fs f : Flash} (h : run fs N (items l slot seq st k i) = (f, 0)) (hi : i < n) :
    (f.writeErr N (Pk.sec l slot (k + i)) (Pk.frame l slot seq st (k + i)) = 0 → run fs N (items l slot seq st k (i + 1)) = (f.write N (Pk.sec l slot (k + i)) (Pk.frame l slot seq st (k + i)), 0)) ∧
    (f.writeErr N (Pk.sec l slot (k + i)) (Pk.frame l slot seq st (k + i)) ≠ 0 → run fs N (items l slot seq st k n) = (f.write N (Pk.sec l slot (k + i)) (Pk.frame l slot seq st (k + i)), f.writeErr N (Pk.sec l slot (k + i)) (Pk.frame l slot seq st (k + i)))) := by
  have e := run_snoc _ fs N (Pk.sec l slot (k + i), Pk.frame l slot seq st (k + i)) f h
  rw [← items_next] at e
  refine ⟨fun h0 => by rw [e]; simp only [h0], fun h0 => ?_⟩
  obtain ⟨ys, hy⟩ := items_split l slot seq st k i n hi
  rw [hy, run_stop _ ys fs N (by rw [e]; exact h0), e]
/-- On a device without a fuse writes to its sectors are done, and counted. -/
theorem run_plain {N : Nat} : ∀ (xs : List (Int × List Nat)) (fs : Flash), Plain fs → (∀ x ∈ xs, 0 ≤ x.1 ∧ x.1 < (N : Int) ∧ x.2.length ≤ 64) → (run fs N xs).2 = 0 ∧ Plain (run fs N xs).1 ∧ (run fs N xs).1.wr = fs.wr + xs.length
  | [], fs, h, _ => ⟨rfl, h, rfl⟩
  | x :: t, fs, h, hx => by
    obtain ⟨h0, h1, h2⟩ := hx x (List.mem_cons_self ..)
    obtain ⟨j, hj⟩ := Int.eq_ofNat_of_zero_le h0
    obtain ⟨e1, e2⟩ := h.write (n := N) (j := j) (by omega) h2
    rw [← hj] at e1 e2
    have ih := run_plain t (fs.write N x.1 x.2) (by rw [e2]; exact h.wrote j x.2) fun y hy => hx y (List.mem_cons_of_mem _ hy)
    rw [run_cons, if_pos e1]
    refine ⟨ih.1, ih.2.1, ?_⟩
    rw [ih.2.2, e2, List.length_cons]
    show fs.wr + 1 + t.length = _
    omega
theorem run_wr {N : Nat} : ∀ (xs : List (Int × List Nat)) (fs : Flash), (run fs N xs).1.wr ≤ fs.wr + xs.length
  | [], fs => Nat.le_refl _
  | x :: t, fs => by
    rw [run_cons]
    have h1 := write_wr fs N x.1 x.2
    split
    · have := run_wr (N := N) t (fs.write N x.1 x.2)
      rw [List.length_cons]; omega
    · rw [List.length_cons]
      show (fs.write N x.1 x.2).wr ≤ _
      omega
end Rg
/-- What was not in the things stays; the things' new blocks are theirs. -/
def Went (c c' : Nat → Nat) (w w' : World) : Prop := Kept (fun k => c k ≠ 0) w w' ∧ ∀ k, k < w.heap.size → c' k = c k
section
variable {W w w' w'' : World} {c c' c'' c2 : Nat → Nat} {i : Nat}
theorem Went.refl (c : Nat → Nat) (w : World) : Went c c w w := ⟨Kept.refl _ _, fun _ _ => rfl⟩
theorem Went.trans (h : Went c c' w w') (k : Went c' c'' w' w'') : Went c c'' w w'' :=
  ⟨h.1.trans' k.1 fun i hi hlt => by have := h.2 i hlt; intro h0; exact hi (by rw [this]; exact h0), fun i hi => (k.2 i (Nat.lt_of_lt_of_le hi h.1.size)).trans (h.2 i hi)⟩
theorem Went.new (hb : Below w.heap.size w w') : Went c c w w' := ⟨Kept.of_new hb, fun _ _ => rfl⟩
theorem Went.paint (hk : Kept (fun k => c k = i) w w') (hi : i ≠ 0) (m : Nat) : Went c (paint c w w' m) w w' := ⟨hk.mono fun k _ e => by rw [e]; exact hi, fun _ h => paint_old h⟩
/-- Two sets of things. -/
def Side (c c2 : Nat → Nat) : Prop := ∀ k, c k ≠ 0 → c2 k = 0
theorem Side.went (h : Side c c2) (hw : Went c c' w w') (h2 : Col W.heap.size w c2) : Side c' c2 := fun k hk => by
  rcases Nat.lt_or_ge k w.heap.size with hlt | hge
  · exact h k (by rw [← hw.2 k hlt]; exact hk)
  · exact h2.1 k hge
end
def RgBox (T : TypeId) (gd gp : Nat) (hv slot lay seq tail now : Int) : Obj := .cells #[.pointer (some ⟨gd, 0, none⟩), .int .i64 hv, .int .i64 slot, .int .i64 lay, .int .i64 seq, .int .i64 tail, .int .i64 now, .pointer (some ⟨gp, 0, none⟩)] T (0, 0)
/-- The program's region: its box, its packer, its device, in blocks of their colours. -/
structure StG (W wr : World) (c : Nat → Nat) (r gd cd md n : Nat) (fs : Flash) (a b cc d hv slot lay seq tail now : Int) (gp : Nat) (st : List Nat) (k : Nat) : Prop where
  colr : Col W.heap.size wr c
  up : Below W.heap.size W wr
  box : wr.heap[r]? = some (RgBox 113 gd gp hv slot lay seq tail now)
  rc : c r = 7
  p : PkIs 134 wr (fun i => c i = 1) gp a b cc d slot seq st k
  d : Dev wr gd cd md n fs
  dc : c gd = 8 ∧ c cd = 8 ∧ c md = 8
section
variable {W wr wr' : World} {c c2 : Nat → Nat} {r gd cd md n : Nat} {fs : Flash} {a b cc d hv slot lay seq tail now : Int} {gp : Nat} {st : List Nat} {k : Nat}
theorem StG.tab (h : StG W wr c r gd cd md n fs a b cc d hv slot lay seq tail now gp st k) (ht : TabW W) (hz : 0 < W.heap.size) : TabW wr ∧ 0 < wr.heap.size := ⟨ht.below h.up hz, Nat.lt_of_lt_of_le hz h.up.size⟩
theorem StG.zero (h : StG W wr c r gd cd md n fs a b cc d hv slot lay seq tail now gp st k) (hz : 0 < W.heap.size) : ¬ c 0 = 1 := fun e => by have := h.colr.2 0 (by rw [e]; decide); omega
theorem StG.lt (h : StG W wr c r gd cd md n fs a b cc d hv slot lay seq tail now gp st k) : r < wr.heap.size := (Array.getElem?_eq_some_iff.1 h.box).1
theorem StG.new (h : StG W wr c r gd cd md n fs a b cc d hv slot lay seq tail now gp st k) (hb : Below wr.heap.size wr wr') : StG W wr' c r gd cd md n fs a b cc d hv slot lay seq tail now gp st k where
  colr := h.colr.next hb.size
  up := h.up.trans (hb.mono h.up.size)
  box := (hb.block r h.lt).trans h.box
  rc := h.rc
  p := h.p.new hb
  d := h.d.on hb
  dc := h.dc
theorem StG.dcol (h : StG W wr c r gd cd md n fs a b cc d hv slot lay seq tail now gp st k) (m : Nat) : paint c wr wr' m gd = 8 ∧ paint c wr wr' m cd = 8 ∧ paint c wr wr' m md = 8 :=
  ⟨by rw [paint_old h.d.lt.1]; exact h.dc.1, by rw [paint_old h.d.lt.2.1]; exact h.dc.2.1, by rw [paint_old h.d.lt.2.2]; exact h.dc.2.2⟩
theorem StG.onP (h : StG W wr c r gd cd md n fs a b cc d hv slot lay seq tail now gp st k) {st' : List Nat} {k' : Nat} (hn : PkIs 134 wr' (Grow (fun i => c i = 1) wr) gp a b cc d slot seq st' k') (hk : Kept (fun i => c i = 1) wr wr') :
    StG W wr' (paint c wr wr' 1) r gd cd md n fs a b cc d hv slot lay seq tail now gp st' k' where
  colr := h.colr.other h.up.size hk 1
  up := below_kept h.up h.colr hk (by decide)
  box := (hk.block r h.lt (by rw [h.rc]; decide)).trans h.box
  rc := (paint_old h.lt).trans h.rc
  p := hn.self
  d := h.d.kept hk (by rw [h.dc.1]; decide) (by rw [h.dc.2.1]; decide) (by rw [h.dc.2.2]; decide)
  dc := h.dcol 1
theorem StG.tookP (h : StG W wr c r gd cd md n fs a b cc d hv slot lay seq tail now gp st k) {st' : List Nat} {k' : Nat} (hn : PkIs 134 wr' (fun i => c i = 1) gp a b cc d slot seq st' k') (hk : Kept (fun i => c i = 1) wr wr') :
    StG W wr' (paint c wr wr' 5) r gd cd md n fs a b cc d hv slot lay seq tail now gp st' k' where
  colr := h.colr.other h.up.size hk 5
  up := below_kept h.up h.colr hk (by decide)
  box := (hk.block r h.lt (by rw [h.rc]; decide)).trans h.box
  rc := (paint_old h.lt).trans h.rc
  p := hn.same h.colr (by decide) 5
  d := h.d.kept hk (by rw [h.dc.1]; decide) (by rw [h.dc.2.1]; decide) (by rw [h.dc.2.2]; decide)
  dc := h.dcol 5
theorem StG.devS (h : StG W wr c r gd cd md n fs a b cc d hv slot lay seq tail now gp st k) (hk : Kept (devS gd cd md) wr wr') : Kept (fun i => c i = 8) wr wr' := hk.mono fun i _ e => by
  rcases e with rfl | rfl | rfl
  · exact h.dc.1
  · exact h.dc.2.1
  · exact h.dc.2.2
theorem StG.onD (h : StG W wr c r gd cd md n fs a b cc d hv slot lay seq tail now gp st k) {fs' : Flash} (hn : Dev wr' gd cd md n fs') (hk0 : Kept (Go.Proofs.YtgnbmmceffolmaaGreatDoor.devS gd cd md) wr wr') :
    StG W wr' (paint c wr wr' 5) r gd cd md n fs' a b cc d hv slot lay seq tail now gp st k where
  colr := h.colr.other h.up.size (h.devS hk0) 5
  up := below_kept h.up h.colr (h.devS hk0) (by decide)
  box := ((h.devS hk0).block r h.lt (by rw [h.rc]; decide)).trans h.box
  rc := (paint_old h.lt).trans h.rc
  p := h.p.other (h.devS hk0) (by decide) 5
  d := hn
  dc := h.dcol 5
/-- The other side's things change. -/
theorem StG.other (h : StG W wr c r gd cd md n fs a b cc d hv slot lay seq tail now gp st k) (hk : Kept (fun i => c2 i ≠ 0) wr wr') (hs : Side c2 c) (h2 : Col W.heap.size wr c2) : StG W wr' c r gd cd md n fs a b cc d hv slot lay seq tail now gp st k where
  colr := h.colr.next hk.size
  up := h.up.trans (hk.below h.up.size fun i e => h2.2 i e)
  box := (hk.block r h.lt (fun e => by have := hs r e; rw [h.rc] at this; cases this)).trans h.box
  rc := h.rc
  p := h.p.kept hk fun i _ e e2 => by have := hs i e2; rw [e] at this; cases this
  d := h.d.kept hk (fun e => by have := hs gd e; rw [h.dc.1] at this; cases this) (fun e => by have := hs cd e; rw [h.dc.2.1] at this; cases this) (fun e => by have := hs md e; rw [h.dc.2.2] at this; cases this)
  dc := h.dc
end
/-- The reference's region: its box, its packer, its device, in blocks of their colours. -/
structure StH (W wr : World) (c : Nat → Nat) (r gd od vd td n lo : Nat) (fs : Flash) (a b cc d hv slot lay seq tail now : Int) (gp : Nat) (st : List Nat) (k : Nat) : Prop where
  colr : Col W.heap.size wr c
  up : Below W.heap.size W wr
  box : wr.heap[r]? = some (RgBox 94 gd gp hv slot lay seq tail now)
  rc : c r = 7
  p : PkIs 92 wr (fun i => c i = 1) gp a b cc d slot seq st k
  d : RDev wr gd od vd td n lo fs
  dc : c gd = 8 ∧ c od = 8 ∧ c vd = 8 ∧ c td = 8
section
variable {W wr wr' : World} {c c2 : Nat → Nat} {r gd od vd td n lo : Nat} {fs : Flash} {a b cc d hv slot lay seq tail now : Int} {gp : Nat} {st : List Nat} {k : Nat}
theorem StH.tab (h : StH W wr c r gd od vd td n lo fs a b cc d hv slot lay seq tail now gp st k) (ht : TabW W) (hz : 0 < W.heap.size) : TabW wr ∧ 0 < wr.heap.size := ⟨ht.below h.up hz, Nat.lt_of_lt_of_le hz h.up.size⟩
theorem StH.zero (h : StH W wr c r gd od vd td n lo fs a b cc d hv slot lay seq tail now gp st k) (hz : 0 < W.heap.size) : ¬ c 0 = 1 := fun e => by have := h.colr.2 0 (by rw [e]; decide); omega
theorem StH.lt (h : StH W wr c r gd od vd td n lo fs a b cc d hv slot lay seq tail now gp st k) : r < wr.heap.size := (Array.getElem?_eq_some_iff.1 h.box).1
theorem StH.new (h : StH W wr c r gd od vd td n lo fs a b cc d hv slot lay seq tail now gp st k) (hb : Below wr.heap.size wr wr') : StH W wr' c r gd od vd td n lo fs a b cc d hv slot lay seq tail now gp st k where
  colr := h.colr.next hb.size
  up := h.up.trans (hb.mono h.up.size)
  box := (hb.block r h.lt).trans h.box
  rc := h.rc
  p := h.p.new hb
  d := h.d.next hb
  dc := h.dc
theorem StH.dcol (h : StH W wr c r gd od vd td n lo fs a b cc d hv slot lay seq tail now gp st k) (m : Nat) : paint c wr wr' m gd = 8 ∧ paint c wr wr' m od = 8 ∧ paint c wr wr' m vd = 8 ∧ paint c wr wr' m td = 8 :=
  ⟨by rw [paint_old h.d.lt.1]; exact h.dc.1, by rw [paint_old h.d.lt.2.1]; exact h.dc.2.1, by rw [paint_old h.d.lt.2.2.1]; exact h.dc.2.2.1, by rw [paint_old h.d.lt.2.2.2]; exact h.dc.2.2.2⟩
theorem StH.onP (h : StH W wr c r gd od vd td n lo fs a b cc d hv slot lay seq tail now gp st k) {st' : List Nat} {k' : Nat} (hn : PkIs 92 wr' (Grow (fun i => c i = 1) wr) gp a b cc d slot seq st' k') (hk : Kept (fun i => c i = 1) wr wr') :
    StH W wr' (paint c wr wr' 1) r gd od vd td n lo fs a b cc d hv slot lay seq tail now gp st' k' where
  colr := h.colr.other h.up.size hk 1
  up := below_kept h.up h.colr hk (by decide)
  box := (hk.block r h.lt (by rw [h.rc]; decide)).trans h.box
  rc := (paint_old h.lt).trans h.rc
  p := hn.self
  d := h.d.kept hk (by rw [h.dc.1]; decide) (by rw [h.dc.2.1]; decide) (by rw [h.dc.2.2.1]; decide) (by rw [h.dc.2.2.2]; decide)
  dc := h.dcol 1
theorem StH.tookP (h : StH W wr c r gd od vd td n lo fs a b cc d hv slot lay seq tail now gp st k) {st' : List Nat} {k' : Nat} (hn : PkIs 92 wr' (fun i => c i = 1) gp a b cc d slot seq st' k') (hk : Kept (fun i => c i = 1) wr wr') :
    StH W wr' (paint c wr wr' 5) r gd od vd td n lo fs a b cc d hv slot lay seq tail now gp st' k' where
  colr := h.colr.other h.up.size hk 5
  up := below_kept h.up h.colr hk (by decide)
  box := (hk.block r h.lt (by rw [h.rc]; decide)).trans h.box
  rc := (paint_old h.lt).trans h.rc
  p := hn.same h.colr (by decide) 5
  d := h.d.kept hk (by rw [h.dc.1]; decide) (by rw [h.dc.2.1]; decide) (by rw [h.dc.2.2.1]; decide) (by rw [h.dc.2.2.2]; decide)
  dc := h.dcol 5
theorem StH.rS (h : StH W wr c r gd od vd td n lo fs a b cc d hv slot lay seq tail now gp st k) (hk : Kept (rS gd od vd td) wr wr') : Kept (fun i => c i = 8) wr wr' := hk.mono fun i _ e => by
  rcases e with rfl | rfl | rfl | rfl
  · exact h.dc.1
  · exact h.dc.2.1
  · exact h.dc.2.2.1
  · exact h.dc.2.2.2
theorem StH.onD (h : StH W wr c r gd od vd td n lo fs a b cc d hv slot lay seq tail now gp st k) {fs' : Flash} {lo' : Nat} (hn : RDev wr' gd od vd td n lo' fs') (hk0 : Kept (Go.Proofs.YtgnbmmceffolmaaGreatDoor.rS gd od vd td) wr wr') :
    StH W wr' (paint c wr wr' 5) r gd od vd td n lo' fs' a b cc d hv slot lay seq tail now gp st k where
  colr := h.colr.other h.up.size (h.rS hk0) 5
  up := below_kept h.up h.colr (h.rS hk0) (by decide)
  box := ((h.rS hk0).block r h.lt (by rw [h.rc]; decide)).trans h.box
  rc := (paint_old h.lt).trans h.rc
  p := h.p.other (h.rS hk0) (by decide) 5
  d := hn
  dc := h.dcol 5
/-- The other side's things change. -/
theorem StH.other (h : StH W wr c r gd od vd td n lo fs a b cc d hv slot lay seq tail now gp st k) (hk : Kept (fun i => c2 i ≠ 0) wr wr') (hs : Side c2 c) (h2 : Col W.heap.size wr c2) : StH W wr' c r gd od vd td n lo fs a b cc d hv slot lay seq tail now gp st k where
  colr := h.colr.next hk.size
  up := h.up.trans (hk.below h.up.size fun i e => h2.2 i e)
  box := (hk.block r h.lt (fun e => by have := hs r e; rw [h.rc] at this; cases this)).trans h.box
  rc := h.rc
  p := h.p.kept hk fun i _ e e2 => by have := hs i e2; rw [e] at this; cases this
  d := h.d.kept hk (fun e => by have := hs gd e; rw [h.dc.1] at this; cases this) (fun e => by have := hs od e; rw [h.dc.2.1] at this; cases this) (fun e => by have := hs vd e; rw [h.dc.2.2.1] at this; cases this) (fun e => by have := hs td e; rw [h.dc.2.2.2] at this; cases this)
  dc := h.dc
end
end Go.Proofs.YtgnbmmceffolmaaGreatDoor
end
section
set_option maxRecDepth 100000
namespace Go.Proofs.YtgnbmmceffolmaaGreatDoor
open Go.RowKit
theorem rg8 {w : World} {r gd gp : Nat} {T : TypeId} {hv slot lay seq tail now : Int} (h : w.heap[r]? = some (RgBox T gd gp hv slot lay seq tail now)) :
    w.cell? ⟨r, 0, none⟩ = some (.pointer (some ⟨gd, 0, none⟩)) ∧ w.cell? ⟨r, 1, none⟩ = some (.int .i64 hv) ∧ w.cell? ⟨r, 2, none⟩ = some (.int .i64 slot) ∧ w.cell? ⟨r, 3, none⟩ = some (.int .i64 lay) ∧ w.cell? ⟨r, 4, none⟩ = some (.int .i64 seq) ∧ w.cell? ⟨r, 5, none⟩ = some (.int .i64 tail) ∧ w.cell? ⟨r, 6, none⟩ = some (.int .i64 now) ∧ w.cell? ⟨r, 7, none⟩ = some (.pointer (some ⟨gp, 0, none⟩)) := pk8 h
theorem SRow.int_at {S : Nat → Prop} {n c k : Nat} {w : World} {A : Option Addr} {l : List Int} (h : SRow S 3 1 w (.slice A n c) n (intS.flat l)) (hk : k < n) : ∃ ad, A = some ad ∧ S ad.block ∧ w.cell? (ad.add k) = some (.int .i64 (l.getD k 0)) := by
  have hl := h.len (Sh := intS)
  obtain ⟨A', c', e', -, ha⟩ := ARow.open_ (S := intS) h.1
  injection e' with e1
  subst e1
  obtain ⟨ad, rfl, -, -, h4⟩ := ha k (by omega)
  have h5 := h4 0 (.int .i64 (l.getD k 0)) rfl
  exact ⟨ad, rfl, h.2 _ rfl, by rwa [show k * intS.m + 0 = k from Nat.mul_one k] at h5⟩
theorem FrRow.at2 {w : World} {S U : Nat → Prop} {A : Option Addr} {n c k : Nat} {fs : List (List Nat)} (h : FrRow w S U (.slice A n c) n fs) (hk : k < n) (hlt : ∀ x ∈ fs.getD k [], x < 256) :
    ∃ ad gf cf, A = some ad ∧ S ad.block ∧ U gf ∧ w.cell? (ad.add k) = some (.slice (some ⟨gf, 0, none⟩) 64 cf) ∧ (fs.getD k []).length = 64 ∧ Bs w w.heap.size (some ⟨gf, 0, none⟩) (fs.getD k []) := by
  obtain ⟨sl, h1, -, h3⟩ := h
  obtain ⟨gf, cf, e, hr⟩ := h3 k hk
  have hl := h1.len (Sh := slS)
  obtain ⟨A', c', e', -, ha⟩ := ARow.open_ (S := slS) h1.1
  injection e' with e1
  subst e1
  obtain ⟨ad, rfl, -, -, h4⟩ := ha k (by omega)
  have h5 := h4 0 (.slice (some ⟨gf, 0, none⟩) 64 cf) (by show (slS.cs (sl.getD k (none, 0, 0)))[0]? = _; rw [e]; rfl)
  refine ⟨ad, gf, cf, rfl, h1.2 _ rfl, hr.2 _ rfl, by rwa [show k * slS.m + 0 = k from Nat.mul_one k] at h5, ?_, hr.bs hlt⟩
  have := hr.1.1
  rw [vals_length] at this
  omega
theorem Pk.secs_get {l : Sb.L} {slot : Int} {k n i : Nat} (hi : i < n) : (Pk.secs l slot k n).getD i 0 = Pk.sec l slot (k + i) := by
  unfold Pk.secs
  rw [List.getD_eq_getElem?_getD, List.getElem?_map, List.getElem?_range' hi]
  simp
theorem Pk.frames_get {l : Sb.L} {slot seq : Int} {st : List Nat} {k n i : Nat} (hi : i < n) : (Pk.frames l slot seq st k n).getD i [] = Pk.frame l slot seq st (k + i) := by
  unfold Pk.frames
  rw [List.getD_eq_getElem?_getD, List.getElem?_map, List.getElem?_range' hi]
  simp
theorem cell_kept {S : Nat → Prop} {w w' : World} {ad : Addr} {v : Value} (h : w.cell? ad = some v) (hk : Kept S w w') (hs : ¬ S ad.block) : w'.cell? ad = some v :=
  (World.cell?_of_block (hk.block _ (World.block_lt_of_cell? _ _ h) hs)).trans h
/-- What write leaves. -/
def RgDid (W w : World) (c : Nat → Nat) (r gd cd md n : Nat) (fs' : Flash) (x : Int) (a b cc d hv slot lay seq tail now : Int) (gp : Nat) (st' : List Nat) (k' : Nat) (e : Ending) (w' : World) : Prop :=
  e = .returned (.int .i64 x) ∧ ∃ c', StG W w' c' r gd cd md n fs' a b cc d hv slot lay seq tail now gp st' k' ∧ Went c c' w w'
section
variable {W w : World} {c : Nat → Nat} {r gd cd md n : Nat} {fs : Flash} {a b cc d hv slot lay seq tail now : Int} {gp : Nat} {st : List Nat} {k : Nat}
set_option maxHeartbeats 2000000 in
theorem rgwrite_any (hg : Hid (StG W w c r gd cd md n fs a b cc d hv slot lay seq tail now gp st k)) (hf : Pk.Fit ⟨a, b, cc, d⟩ slot seq st k) (ht : Hid (TabW W)) (hz : 0 < W.heap.size) (hwr : fs.wr < 4000000000000000000) :
    Calls Tryz.prog 62 #[.pointer (some ⟨r, 0, none⟩)] w (RgDid W w c r gd cd md n (Rg.run fs n (Rg.items ⟨a, b, cc, d⟩ slot seq st k (Pk.full st - k))).1 (Rg.run fs n (Rg.items ⟨a, b, cc, d⟩ slot seq st k (Pk.full st - k))).2 a b cc d hv slot lay seq tail now gp st (Pk.full st)) := by
  have HT := Lib.hid (pktake_any (Lib.hid hg.out.p) hf (hg.out.zero hz) (Lib.hid (hg.out.tab ht.out hz).1) (hg.out.tab ht.out hz).2)
  obtain ⟨z0, -, -, -, -, -, -, z7⟩ := rg8 hg.out.box
  have hfu := Pk.full_le hf
  have HF := Lib.hid hf
  have HFU : Hid (k ≤ Pk.full st) := hf.full
  unfold PkTook at HT
  generalize hm : Pk.full st - k = m at *
  have HM := Lib.hid hm
  have hm2 : m ≤ 2047 := by omega
  clear hm hfu
  go_enter Tryz.func62, Tryz.ntmps62
  go_wp2_with fail
  refine HT.out.mono ?_
  rintro e w1 ⟨sv, fv, rfl, hs1, hf1, hp1, hk1⟩
  obtain ⟨A1, c1, rfl, hA1⟩ := hs1.open_
  obtain ⟨A2, c2, rfl, hA2⟩ := hf1.open_
  obtain ⟨-, hA1, hA1'⟩ := hA1
  obtain ⟨-, hA2, hA2'⟩ := hA2
  have HG1 := Lib.hid (hg.out.tookP hp1 hk1)
  have HW1 : Hid (Went c (paint c w w1 5) w w1) := Went.paint hk1 (by decide) 5
  have HNEW : Hid (∀ i, w.heap.size ≤ i → ¬ devS gd cd md i) := fun i hi e => by
    have := hg.out.d.lt
    unfold devS at e
    omega
  have HS1 := Lib.hid hs1
  have HF1 := Lib.hid hf1
  have hwc : Hid (c r = 7) := hg.out.rc
  clear hs1 hf1 hp1 hk1 hg HT z0 z7
  generalize paint c w w1 5 = c5 at *
  go_wp2_with fail
  go_loopw [18] (fun iv wr => ∃ (i : Nat) (f : Flash), iv = .int .i64 (i : Int) ∧ i ≤ m ∧ Hid (Rg.run fs n (Rg.items ⟨a, b, cc, d⟩ slot seq st k i) = (f, 0)) ∧ Hid (Dev wr gd cd md n f ∧ Kept (devS gd cd md) w1 wr)) (fun i _ => m - (Go.RowKit.intOf i).toNat)
  case atStart => exact ⟨0, fs, rfl, Nat.zero_le _, rfl, HG1.out.d, Kept.refl _ _⟩
  case round =>
    obtain ⟨i, f, rfl, him, HRUN, HD⟩ := hrel
    have hfw := Rg.run_wr (N := n) (Rg.items ⟨a, b, cc, d⟩ slot seq st k i) fs
    rw [HRUN.out, Rg.items_len] at hfw
    by_cases hi : i < m
    · have f1 : decide ((i : Int) < (m : Int)) = true := by simp only [decide_eq_true_eq]; omega
      have hkf : k + i < Pk.full st := by have := HFU.out; have := HM.out; omega
      obtain ⟨ad1, rfl, hb1, hc1⟩ := HS1.out.int_at hi
      obtain ⟨ad2, gf, cf, rfl, hb2, hb3, hc2, hl2, hs2⟩ := HF1.out.at2 hi (by rw [Pk.frames_get hi]; exact Pk.frame_lt HF.out hkf)
      rw [Pk.secs_get hi] at hc1
      rw [Pk.frames_get hi] at hl2 hs2
      have HST := Lib.hid (Rg.run_step HRUN.out hi)
      obtain ⟨x, hx⟩ : ∃ x, Pk.sec ⟨a, b, cc, d⟩ slot (k + i) = x := ⟨_, rfl⟩
      obtain ⟨fr, hfr⟩ : ∃ fr, Pk.frame ⟨a, b, cc, d⟩ slot seq st (k + i) = fr := ⟨_, rfl⟩
      rw [hx, hfr] at HST
      rw [hx] at hc1
      rw [hfr] at hl2 hs2
      have q1 := cell_kept hc1 HD.out.2 (by rw [add_block]; exact HNEW.out _ hb1)
      have HCELL : Hid (∀ W', Kept (devS gd cd md) w1 W' → W'.cell? ⟨r, 0, none⟩ = some (.pointer (some ⟨gd, 0, none⟩)) ∧ W'.cell? (ad2.add i) = some (.slice (some ⟨gf, 0, none⟩) 64 cf)) := fun W' hk => ⟨cell_kept (rg8 HG1.out.box).1 hk (fun e => by
        have h7 := HG1.out.rc
        have h8 := HG1.out.dc
        rcases e with e | e | e <;> (simp only at e; subst e; omega)), cell_kept hc2 hk (by rw [add_block]; exact HNEW.out _ hb2)⟩
      have HWR : Hid (∀ W', Dev W' gd cd md n f → Kept (devS gd cd md) w1 W' → Calls Tryz.prog 92 #[.pointer (some ⟨gd, 0, none⟩), .int .i64 x, .slice (some ⟨gf, 0, none⟩) 64 cf] W' (WriteDid W' gd cd md n (f.write n x fr) (f.writeErr n x fr))) := fun W' h1 h2 =>
        write_any x (some ⟨gf, 0, none⟩) w1.heap.size 64 cf fr (by decide) hl2 (hs2.kept h2 fun ad e _ => by injection e with e; subst e; exact HNEW.out _ hb3) h1 (by show f.wr < _; have : f.wr ≤ fs.wr + i := hfw; omega)
      unfold WriteDid at HWR
      generalize f.write n x fr = f' at *
      generalize f.writeErr n x fr = er at *
      have HDD : Hid (Dev wr.drew gd cd md n f ∧ Kept (devS gd cd md) w1 wr.drew) := ⟨HD.out.1.drewN 1, HD.out.2.drewN 1⟩
      have hsz1 : i ≤ 100000 := by omega
      obtain ⟨q2, q3⟩ := HCELL.out _ HD.out.2
      clear hc1 hb1 hb2 hb3 hc2 hl2 hs2 hx hfr hfw hkf HRUN
      go_wp2_with fail
      go_region_held3 (fun W' => W'.cell? ⟨r, 0, none⟩ = some (.pointer (some ⟨gd, 0, none⟩)) ∧ W'.cell? (ad2.add i) = some (.slice (some ⟨gf, 0, none⟩) 64 cf))
        (first
          | go_keep
          | (revert HD3; intro HD3; with_reducible exact HCELL.out _ HD3.out.2)
          | exact ⟨q2, q3⟩)
        (first
          | (go_at_call 92; refine (HWR.out _ HDD.out.1 HDD.out.2).mono ?_; rintro e w3 ⟨rfl, hd3, hk3⟩; have HD3 : Hid (Dev w3 gd cd md n f' ∧ Kept (devS gd cd md) w1 w3) := ⟨hd3, HDD.out.2.trans hk3⟩; clear hd3 hk3))
      all_goals
        by_cases h0 : er = 0
        · subst h0
          go_wp2
          go_roundw
          case rel => exact ⟨i + 1, f', by go_num, by omega, HST.out.1 rfl, HD3.out⟩
          case measure => simp [Go.RowKit.intOf]; omega
        · have f2 : (er != 0) = true := by simpa using h0
          go_wp2
          go_ret
          rw [HST.out.2 h0]
          exact ⟨rfl, _, HG1.out.onD HD3.out.1 HD3.out.2, HW1.out.trans (Went.paint (HG1.out.devS HD3.out.2) (by decide) 5)⟩
    · obtain rfl : i = m := by omega
      have f1 : decide ((i : Int) < (i : Int)) = false := by simp
      clear hi him
      go_wp2
      go_ret
      rw [HRUN.out]
      exact ⟨rfl, _, HG1.out.onD HD.out.1 HD.out.2, HW1.out.trans (Went.paint (HG1.out.devS HD.out.2) (by decide) 5)⟩
end
end Go.Proofs.YtgnbmmceffolmaaGreatDoor
end
section
set_option maxRecDepth 100000
namespace Go.Proofs.YtgnbmmceffolmaaGreatDoor
open Go.RowKit
namespace Rg
/-- What was written when the stream has become st'. -/
def after (l : Sb.L) (slot seq : Int) (fs : Flash) (n : Nat) (st st' : List Nat) : Flash × Int := run fs n (items l slot seq st' (Pk.full st) (Pk.full st' - Pk.full st))
def pos (er x v : Int) : Int := if er = 0 ∧ x = 0 then v else 0
def worst (er x : Int) : Int := if er = 0 then x else er
def syncErr (R : Flash × Int) : Int := if R.2 = 0 then R.1.barrierErr else R.2
def syncFs (R : Flash × Int) : Flash := if R.2 = 0 then R.1.barrier else R.1
theorem after_same (l : Sb.L) (slot seq : Int) (fs : Flash) (n : Nat) (st : List Nat) : after l slot seq fs n st st = (fs, 0) := by
  unfold after
  rw [Nat.sub_self]
  rfl
theorem full_put (l : Sb.L) (seq : Int) (st : List Nat) (r : Rc.Rec) : Pk.full st ≤ Pk.full (Pk.put l seq st r) := by
  obtain ⟨x, e⟩ := Pk.put_more l seq st r
  unfold Pk.full
  rw [e, List.length_append]
  exact Nat.div_le_div_right (Nat.le_add_right _ _)
theorem full_pad (st : List Nat) : Pk.full st ≤ Pk.full (Pk.pad st) := by
  unfold Pk.full
  rw [Pk.pad_length]
  exact Nat.div_le_div_right (Nat.le_add_right _ _)
end Rg
/-- What Append leaves. -/
def RgPut (W w : World) (c : Nat → Nat) (r gd cd md n : Nat) (fs : Flash) (a b cc d hv slot lay seq tail now : Int) (gp : Nat) (st : List Nat) (rc : Rc.Rec) (e : Ending) (w' : World) : Prop :=
  e = .returned (.tuple #[.int .i64 (Rg.pos (Pk.err ⟨a, b, cc, d⟩ st rc) (Rg.after ⟨a, b, cc, d⟩ slot seq fs n st (Pk.put ⟨a, b, cc, d⟩ seq st rc)).2 (st.length : Int)), .int .i64 (Rg.pos (Pk.err ⟨a, b, cc, d⟩ st rc) (Rg.after ⟨a, b, cc, d⟩ slot seq fs n st (Pk.put ⟨a, b, cc, d⟩ seq st rc)).2 (Rc.len rc : Int)), .int .i64 (Rg.worst (Pk.err ⟨a, b, cc, d⟩ st rc) (Rg.after ⟨a, b, cc, d⟩ slot seq fs n st (Pk.put ⟨a, b, cc, d⟩ seq st rc)).2)]) ∧
  ∃ c', StG W w' c' r gd cd md n (Rg.after ⟨a, b, cc, d⟩ slot seq fs n st (Pk.put ⟨a, b, cc, d⟩ seq st rc)).1 a b cc d hv slot lay seq tail now gp (Pk.put ⟨a, b, cc, d⟩ seq st rc) (Pk.full (Pk.put ⟨a, b, cc, d⟩ seq st rc)) ∧ Went c c' w w'
section
variable {W w : World} {c : Nat → Nat} {r gd cd md n : Nat} {fs : Flash} {a b cc d hv slot lay seq tail now : Int} {gp : Nat} {st : List Nat}
set_option maxHeartbeats 2000000 in
theorem rgappend_any (kd x : Int) (key val : List Nat) (A1 A2 : Option Addr) (B n1 c1 n2 c2 : Nat) (hB : B ≤ w.heap.size) (hi : Hid (RecIn w B A1 A2 n1 c1 n2 c2 key val)) (hg : Hid (StG W w c r gd cd md n fs a b cc d hv slot lay seq tail now gp st (Pk.full st))) (hf : Pk.Fit ⟨a, b, cc, d⟩ slot seq st (Pk.full st)) (ht : Hid (TabW W)) (hz : 0 < W.heap.size) (hwr : fs.wr < 4000000000000000000) :
    Calls Tryz.prog 29 #[.pointer (some ⟨r, 0, none⟩), .agg #[.int .i64 kd, .slice A1 n1 c1, .slice A2 n2 c2, .int .i64 x]] w (RgPut W w c r gd cd md n fs a b cc d hv slot lay seq tail now gp st ⟨kd, key, val, x⟩) := by
  have HB0 : Hid (Below w.heap.size w (w.alloc (.cells #[.int .i64 kd, .slice A1 n1 c1, .slice A2 n2 c2, .int .i64 x] 55))) := (Below.refl _ w).alloc (Nat.le_refl _) _
  have HBD : Hid (Below w.heap.size w (w.alloc (.cells #[.int .i64 kd, .slice A1 n1 c1, .slice A2 n2 c2, .int .i64 x] 55)).drew) := HB0.out.drew
  have HGD := Lib.hid (hg.out.new HBD.out)
  have HX0 := Lib.hid (heap_alloc_new w (.cells #[.int .i64 kd, .slice A1 n1 c1, .slice A2 n2 c2, .int .i64 x] 55))
  have HC0 : Hid (c w.heap.size = 0) := hg.out.colr.1 _ (Nat.le_refl _)
  have HPUT := Lib.hid (pkput_any kd x key val A1 A2 B n1 c1 n2 c2 (Nat.le_trans hB HBD.out.size) (Lib.hid (RecIn.below hi.out HBD.out hB)) (Lib.hid HGD.out.p) hf (Lib.hid (HGD.out.tab ht.out hz).1) (HGD.out.tab ht.out hz).2)
  have HFP : Hid (Pk.Fit ⟨a, b, cc, d⟩ slot seq (Pk.put ⟨a, b, cc, d⟩ seq st ⟨kd, key, val, x⟩) (Pk.full st)) := hf.put _ hi.out.1.2.2.lt hi.out.2.2.2.lt
  have HWR : Hid (∀ w1 c1, StG W w1 c1 r gd cd md n fs a b cc d hv slot lay seq tail now gp (Pk.put ⟨a, b, cc, d⟩ seq st ⟨kd, key, val, x⟩) (Pk.full st) → Calls Tryz.prog 62 #[.pointer (some ⟨r, 0, none⟩)] w1 (RgDid W w1 c1 r gd cd md n (Rg.after ⟨a, b, cc, d⟩ slot seq fs n st (Pk.put ⟨a, b, cc, d⟩ seq st ⟨kd, key, val, x⟩)).1 (Rg.after ⟨a, b, cc, d⟩ slot seq fs n st (Pk.put ⟨a, b, cc, d⟩ seq st ⟨kd, key, val, x⟩)).2 a b cc d hv slot lay seq tail now gp (Pk.put ⟨a, b, cc, d⟩ seq st ⟨kd, key, val, x⟩) (Pk.full (Pk.put ⟨a, b, cc, d⟩ seq st ⟨kd, key, val, x⟩)))) := fun w1 c1 h => rgwrite_any h HFP.out ht hz hwr
  have HNO : Hid (Pk.err ⟨a, b, cc, d⟩ st ⟨kd, key, val, x⟩ ≠ 0 → Pk.put ⟨a, b, cc, d⟩ seq st ⟨kd, key, val, x⟩ = st ∧ Rg.after ⟨a, b, cc, d⟩ slot seq fs n st (Pk.put ⟨a, b, cc, d⟩ seq st ⟨kd, key, val, x⟩) = (fs, 0)) := fun h => by
    rw [Pk.put_no h]; exact ⟨rfl, Rg.after_same ..⟩
  have HSW : Hid (∀ W', Kept (fun i => c i = 1) (w.alloc (.cells #[.int .i64 kd, .slice A1 n1 c1, .slice A2 n2 c2, .int .i64 x] 55)).drew W' → W'.cell? ⟨r, 7, none⟩ = some (.pointer (some ⟨gp, 0, none⟩)) ∧ W'.cell? ⟨w.heap.size, 0, none⟩ = some (.int .i64 kd) ∧ W'.cell? ⟨w.heap.size, 1, none⟩ = some (.slice A1 n1 c1) ∧ W'.cell? ⟨w.heap.size, 2, none⟩ = some (.slice A2 n2 c2) ∧ W'.cell? ⟨w.heap.size, 3, none⟩ = some (.int .i64 x)) := fun W' hk => by
    have h7 := HGD.out.rc
    have h8 := HC0.out
    obtain ⟨q0, q1, q2, q3⟩ := four_cells (w := (w.alloc (.cells #[.int .i64 kd, .slice A1 n1 c1, .slice A2 n2 c2, .int .i64 x] 55)).drew) HX0.out
    have hn : ¬ c w.heap.size = 1 := by omega
    exact ⟨cell_kept (rg8 HGD.out.box).2.2.2.2.2.2.2 hk (show ¬ c r = 1 by omega), cell_kept q0 hk hn, cell_kept q1 hk hn, cell_kept q2 hk hn, cell_kept q3 hk hn⟩
  unfold RgPut
  unfold PkPut at HPUT
  unfold RgDid at HWR
  clear hg hi HX0 HC0 HFP HB0
  generalize Rg.after ⟨a, b, cc, d⟩ slot seq fs n st (Pk.put ⟨a, b, cc, d⟩ seq st ⟨kd, key, val, x⟩) = R at *
  generalize Pk.err ⟨a, b, cc, d⟩ st ⟨kd, key, val, x⟩ = er at *
  generalize Pk.put ⟨a, b, cc, d⟩ seq st ⟨kd, key, val, x⟩ = st' at *
  obtain ⟨f', xe⟩ := R
  simp only at HWR HNO ⊢
  generalize (Rc.len ⟨kd, key, val, x⟩ : Int) = len at *
  generalize (st.length : Int) = off at *
  generalize hk' : Pk.full st' = k' at *
  by_cases hE : er = 0
  · subst hE
    rw [if_pos rfl, if_pos rfl] at HPUT
    clear HNO hk'
    by_cases hx : xe = 0
    all_goals
      first
        | (subst hx; rw [show Rg.pos 0 0 off = off from rfl, show Rg.pos 0 0 len = len from rfl, show Rg.worst 0 0 = 0 from rfl])
        | (rw [show Rg.pos 0 xe off = 0 from if_neg fun h => hx h.2, show Rg.pos 0 xe len = 0 from if_neg fun h => hx h.2, show Rg.worst 0 xe = xe from rfl]; have f2 : (xe != 0) = true := by simpa using hx)
      go_enter Tryz.func29, Tryz.ntmps29
      go_upto_region 3 with fail
      generalize w.alloc (.cells #[.int .i64 kd, .slice A1 n1 c1, .slice A2 n2 c2, .int .i64 x] 55) = w0 at *
      go_region_held3 (fun W' => W'.cell? ⟨r, 7, none⟩ = some (.pointer (some ⟨gp, 0, none⟩)) ∧ W'.cell? ⟨w.heap.size, 0, none⟩ = some (.int .i64 kd) ∧ W'.cell? ⟨w.heap.size, 1, none⟩ = some (.slice A1 n1 c1) ∧ W'.cell? ⟨w.heap.size, 2, none⟩ = some (.slice A2 n2 c2) ∧ W'.cell? ⟨w.heap.size, 3, none⟩ = some (.int .i64 x))
        (first
          | (revert HK1; intro HK1; with_reducible exact HSW.out _ HK1.out)
          | (with_reducible exact HSW.out _ (Kept.refl _ _)))
        (first
          | (go_at_call 61; refine HPUT.out.mono ?_; rintro e w1 ⟨rfl, hp1, hk1⟩; have HG1 := Lib.hid (HGD.out.onP hp1 hk1); have HK1 := Lib.hid hk1; clear hp1 hk1))
      all_goals
        have HW1 : Hid (Went c (paint c w0.drew w1 1) w w1) := (Went.new HBD.out).trans (Went.paint HK1.out (by decide) 1)
        generalize paint c w0.drew w1 1 = c2 at *
        go_wp2_with fail
        refine (HWR.out _ _ HG1.out).mono ?_
        rintro e w2 ⟨rfl, c3, hg2, hw2⟩
        have HG2 := Lib.hid hg2
        have HW2 := Lib.hid (HW1.out.trans hw2)
        clear hg2 hw2
        go_wp2
        go_ret3
        exact ⟨rfl, _, HG2.out, HW2.out⟩
  · obtain ⟨rfl, hR⟩ := HNO.out hE
    injection hR with hR1 hR2
    subst hR1 hR2 hk'
    rw [if_neg hE, if_neg hE] at HPUT
    rw [show Rg.pos er 0 off = 0 from if_neg fun h => hE h.1, show Rg.pos er 0 len = 0 from if_neg fun h => hE h.1, show Rg.worst er 0 = er from if_neg hE]
    have f1 : (er == 0) = false := by simpa using hE
    have f2 : (er != 0) = true := by simpa using hE
    clear HNO
    go_enter Tryz.func29, Tryz.ntmps29
    go_upto_region 3 with fail
    generalize w.alloc (.cells #[.int .i64 kd, .slice A1 n1 c1, .slice A2 n2 c2, .int .i64 x] 55) = w0 at *
    go_region_held3 (fun W' => W'.cell? ⟨r, 7, none⟩ = some (.pointer (some ⟨gp, 0, none⟩)) ∧ W'.cell? ⟨w.heap.size, 0, none⟩ = some (.int .i64 kd) ∧ W'.cell? ⟨w.heap.size, 1, none⟩ = some (.slice A1 n1 c1) ∧ W'.cell? ⟨w.heap.size, 2, none⟩ = some (.slice A2 n2 c2) ∧ W'.cell? ⟨w.heap.size, 3, none⟩ = some (.int .i64 x))
      (first
        | (revert HK1; intro HK1; with_reducible exact HSW.out _ HK1.out)
        | (with_reducible exact HSW.out _ (Kept.refl _ _)))
      (first
        | (go_at_call 61; refine HPUT.out.mono ?_; rintro e w1 ⟨rfl, hp1, hk1⟩; have HG1 := Lib.hid (HGD.out.onP hp1 hk1); have HK1 := Lib.hid hk1; clear hp1 hk1))
    all_goals
      have HW1 : Hid (Went c (paint c w0.drew w1 1) w w1) := (Went.new HBD.out).trans (Went.paint HK1.out (by decide) 1)
      generalize paint c w0.drew w1 1 = c2 at *
      go_wp2
      go_ret3
      exact ⟨rfl, _, HG1.out, HW1.out⟩
/-- What Sync leaves. -/
def RgSync (W w : World) (c : Nat → Nat) (r gd cd md n : Nat) (fs : Flash) (a b cc d hv slot lay seq tail now : Int) (gp : Nat) (st : List Nat) (e : Ending) (w' : World) : Prop :=
  e = .returned (.int .i64 (Rg.syncErr (Rg.after ⟨a, b, cc, d⟩ slot seq fs n st (Pk.pad st)))) ∧
  ∃ c', StG W w' c' r gd cd md n (Rg.syncFs (Rg.after ⟨a, b, cc, d⟩ slot seq fs n st (Pk.pad st))) a b cc d hv slot lay seq tail now gp (Pk.pad st) (Pk.full (Pk.pad st)) ∧ Went c c' w w'
set_option maxHeartbeats 2000000 in
theorem rgsync_any (hg : Hid (StG W w c r gd cd md n fs a b cc d hv slot lay seq tail now gp st (Pk.full st))) (hf : Pk.Fit ⟨a, b, cc, d⟩ slot seq st (Pk.full st)) (ht : Hid (TabW W)) (hz : 0 < W.heap.size) (hwr : fs.wr < 4000000000000000000) :
    Calls Tryz.prog 30 #[.pointer (some ⟨r, 0, none⟩)] w (RgSync W w c r gd cd md n fs a b cc d hv slot lay seq tail now gp st) := by
  have HPAD := Lib.hid (pkpad_any (Lib.hid hg.out.p) hf.short)
  have HWR : Hid (∀ w1 c1, StG W w1 c1 r gd cd md n fs a b cc d hv slot lay seq tail now gp (Pk.pad st) (Pk.full st) → Calls Tryz.prog 62 #[.pointer (some ⟨r, 0, none⟩)] w1 (RgDid W w1 c1 r gd cd md n (Rg.after ⟨a, b, cc, d⟩ slot seq fs n st (Pk.pad st)).1 (Rg.after ⟨a, b, cc, d⟩ slot seq fs n st (Pk.pad st)).2 a b cc d hv slot lay seq tail now gp (Pk.pad st) (Pk.full (Pk.pad st)))) := fun w1 c1 h => rgwrite_any h hf.pad ht hz hwr
  obtain ⟨z0, -, -, -, -, -, -, z7⟩ := rg8 hg.out.box
  unfold RgSync
  unfold RgDid at HWR
  generalize Rg.after ⟨a, b, cc, d⟩ slot seq fs n st (Pk.pad st) = R at *
  generalize Pk.pad st = st' at *
  obtain ⟨f', xe⟩ := R
  simp only at HWR
  generalize Pk.full st' = k' at *
  by_cases hx : xe = 0
  · subst hx
    rw [show Rg.syncErr (f', 0) = f'.barrierErr from rfl, show Rg.syncFs (f', 0) = f'.barrier from rfl]
    have HBA : Hid (∀ W', Dev W' gd cd md n f' → Calls Tryz.prog 64 #[.pointer (some ⟨gd, 0, none⟩)] W' (BarrierDid W' gd cd md n f'.barrier f'.barrierErr)) := fun W' h1 => barrier_any h1
    unfold BarrierDid at HBA
    generalize f'.barrierErr = be at *
    generalize f'.barrier = f2 at *
    go_enter Tryz.func30, Tryz.ntmps30
    go_wp2_with fail
    refine HPAD.out.mono ?_
    rintro e w1 ⟨rfl, hp1, hk1⟩
    have HG1 := Lib.hid (hg.out.onP hp1 hk1)
    have HW1 : Hid (Went c (paint c w w1 1) w w1) := Went.paint hk1 (by decide) 1
    clear hp1 hk1 HPAD z0 z7 hg
    generalize paint c w w1 1 = c2 at *
    go_wp2_with fail
    refine (HWR.out _ _ HG1.out).mono ?_
    rintro e w2 ⟨rfl, c3, hg2, hw2⟩
    have HG2 := Lib.hid hg2
    have HW2 := Lib.hid (HW1.out.trans hw2)
    obtain ⟨z0, -, -, -, -, -, -, z7⟩ := rg8 hg2.box
    clear hg2 hw2 HW1 HG1
    go_wp2_with fail
    refine (HBA.out _ HG2.out.d).mono ?_
    rintro e w3 ⟨rfl, hd3, hk3⟩
    have hk3' : Kept (devS gd cd md) w2 w3 := hk3.mono fun j _ hj => by
      rcases hj with hj | hj
      · exact .inl hj
      · exact .inr (.inr hj)
    have HG3 := Lib.hid (HG2.out.onD hd3 hk3')
    have HW3 : Hid (Went c (paint c3 w2 w3 5) w w3) := HW2.out.trans (Went.paint (HG2.out.devS hk3') (by decide) 5)
    go_wp2
    go_ret
    exact ⟨rfl, _, HG3.out, HW3.out⟩
  · rw [show Rg.syncErr (f', xe) = xe from if_neg hx, show Rg.syncFs (f', xe) = f' from if_neg hx]
    have f2 : (xe != 0) = true := by simpa using hx
    go_enter Tryz.func30, Tryz.ntmps30
    go_wp2_with fail
    refine HPAD.out.mono ?_
    rintro e w1 ⟨rfl, hp1, hk1⟩
    have HG1 := Lib.hid (hg.out.onP hp1 hk1)
    have HW1 : Hid (Went c (paint c w w1 1) w w1) := Went.paint hk1 (by decide) 1
    clear hp1 hk1 HPAD z0 z7 hg
    generalize paint c w w1 1 = c2 at *
    go_wp2_with fail
    refine (HWR.out _ _ HG1.out).mono ?_
    rintro e w2 ⟨rfl, c3, hg2, hw2⟩
    have HG2 := Lib.hid hg2
    have HW2 := Lib.hid (HW1.out.trans hw2)
    clear hg2 hw2
    go_wp2
    go_ret
    exact ⟨rfl, _, HG2.out, HW2.out⟩
variable {k : Nat}
end
end Go.Proofs.YtgnbmmceffolmaaGreatDoor
end
section
namespace Go.Proofs.YtgnbmmceffolmaaGreatDoor
open Go.RowKit
theorem hdwithin_any (n a b : Int) (w : World) : Calls Tryz.prog 88 #[.int .i64 n, .int .i64 a, .int .i64 b] w fun e w' => e = .returned (.bool (decide (a ≤ n ∧ n ≤ b))) ∧ w = w' := by
  rw [Bool.decide_and]
  cases ha : decide (a ≤ n)
  all_goals
    go_enter Tryz.func88, Tryz.ntmps88
    go_wp2
    go_ret
    exact ⟨ret_bool (by simp), rfl⟩
/-- The first of six that is false. -/
theorem six_ways (t0 t1 t2 t3 t4 t5 : Bool) : t0 = false ∨ (t0 = true ∧ t1 = false) ∨ (t0 = true ∧ t1 = true ∧ t2 = false) ∨ (t0 = true ∧ t1 = true ∧ t2 = true ∧ t3 = false) ∨ (t0 = true ∧ t1 = true ∧ t2 = true ∧ t3 = true ∧ t4 = false) ∨ (t0 = true ∧ t1 = true ∧ t2 = true ∧ t3 = true ∧ t4 = true) := by
  cases t0 <;> cases t1 <;> cases t2 <;> cases t3 <;> cases t4 <;> cases t5 <;> simp
set_option maxHeartbeats 1000000 in
theorem hdvalid_any (a b c d e f : Int) (w : World) :
    Calls Tryz.prog 53 #[.agg #[.int .i64 a, .int .i64 b, .int .i64 c, .int .i64 d, .int .i64 e, .int .i64 f]] w fun r w' => r = .returned (.bool (decide (Hd.valid ⟨a, b, c, d, e, f⟩))) ∧ Below w.heap.size w w' := by
  have HV : Hid (decide (Hd.valid ⟨a, b, c, d, e, f⟩) = (decide (1 ≤ a ∧ a ≤ 2) && (decide (0 ≤ b ∧ b ≤ 15) && (decide (1 ≤ c ∧ c ≤ 4294967295) && (decide (1 ≤ d ∧ d ≤ 281474976710655) && (decide (0 ≤ e ∧ e ≤ d) && decide (0 ≤ f ∧ f ≤ 549755813888))))))) := by
    show _ = _
    simp only [← Bool.decide_and]
    exact decide_eq_decide.2 (by unfold Hd.valid; simp only; omega)
  rw [HV.out]
  clear HV
  have C0 := Lib.hid (fun W => hdwithin_any a 1 2 W)
  have C1 := Lib.hid (fun W => hdwithin_any b 0 15 W)
  have C2 := Lib.hid (fun W => hdwithin_any c 1 4294967295 W)
  have C3 := Lib.hid (fun W => hdwithin_any d 1 281474976710655 W)
  have C4 := Lib.hid (fun W => hdwithin_any e 0 d W)
  have C5 := Lib.hid (fun W => hdwithin_any f 0 549755813888 W)
  generalize decide (1 ≤ a ∧ a ≤ 2) = t0 at *
  generalize decide (0 ≤ b ∧ b ≤ 15) = t1 at *
  generalize decide (1 ≤ c ∧ c ≤ 4294967295) = t2 at *
  generalize decide (1 ≤ d ∧ d ≤ 281474976710655) = t3 at *
  generalize decide (0 ≤ e ∧ e ≤ d) = t4 at *
  generalize decide (0 ≤ f ∧ f ≤ 549755813888) = t5 at *
  have HS0 := Lib.hid (sd_new w #[.int .i64 a, .int .i64 b, .int .i64 c, .int .i64 d, .int .i64 e, .int .i64 f] 35)
  rcases six_ways t0 t1 t2 t3 t4 t5 with rfl | ⟨rfl, rfl⟩ | ⟨rfl, rfl, rfl⟩ | ⟨rfl, rfl, rfl, rfl⟩ | ⟨rfl, rfl, rfl, rfl, rfl⟩ | ⟨rfl, rfl, rfl, rfl, rfl⟩
  · go_enter Tryz.func53, Tryz.ntmps53
    go_upto_region 1 with fail
    generalize w.alloc (.cells #[.int .i64 a, .int .i64 b, .int .i64 c, .int .i64 d, .int .i64 e, .int .i64 f] 35) = w0 at *
    obtain ⟨z0, z1, z2, z3, z4, z5⟩ := six_cells HS0.out.1
    go_wp2_with fail
    refine (C0.out _).mono ?_
    rintro r w' ⟨rfl, rfl⟩
    go_wp2_with fail
    go_ret
    exact ⟨rfl, HS0.out.2⟩
  · go_enter Tryz.func53, Tryz.ntmps53
    go_upto_region 1 with fail
    generalize w.alloc (.cells #[.int .i64 a, .int .i64 b, .int .i64 c, .int .i64 d, .int .i64 e, .int .i64 f] 35) = w0 at *
    obtain ⟨z0, z1, z2, z3, z4, z5⟩ := six_cells HS0.out.1
    go_wp2_with fail
    refine (C0.out _).mono ?_
    rintro r w' ⟨rfl, rfl⟩
    go_wp2_with fail
    refine (C1.out _).mono ?_
    rintro r w' ⟨rfl, rfl⟩
    go_wp2_with fail
    go_ret
    exact ⟨rfl, HS0.out.2⟩
  · go_enter Tryz.func53, Tryz.ntmps53
    go_upto_region 1 with fail
    generalize w.alloc (.cells #[.int .i64 a, .int .i64 b, .int .i64 c, .int .i64 d, .int .i64 e, .int .i64 f] 35) = w0 at *
    obtain ⟨z0, z1, z2, z3, z4, z5⟩ := six_cells HS0.out.1
    go_wp2_with fail
    refine (C0.out _).mono ?_
    rintro r w' ⟨rfl, rfl⟩
    go_wp2_with fail
    refine (C1.out _).mono ?_
    rintro r w' ⟨rfl, rfl⟩
    go_wp2_with fail
    refine (C2.out _).mono ?_
    rintro r w' ⟨rfl, rfl⟩
    go_wp2_with fail
    go_ret
    exact ⟨rfl, HS0.out.2⟩
  · go_enter Tryz.func53, Tryz.ntmps53
    go_upto_region 1 with fail
    generalize w.alloc (.cells #[.int .i64 a, .int .i64 b, .int .i64 c, .int .i64 d, .int .i64 e, .int .i64 f] 35) = w0 at *
    obtain ⟨z0, z1, z2, z3, z4, z5⟩ := six_cells HS0.out.1
    go_wp2_with fail
    refine (C0.out _).mono ?_
    rintro r w' ⟨rfl, rfl⟩
    go_wp2_with fail
    refine (C1.out _).mono ?_
    rintro r w' ⟨rfl, rfl⟩
    go_wp2_with fail
    refine (C2.out _).mono ?_
    rintro r w' ⟨rfl, rfl⟩
    go_wp2_with fail
    refine (C3.out _).mono ?_
    rintro r w' ⟨rfl, rfl⟩
    go_wp2_with fail
    go_ret
    exact ⟨rfl, HS0.out.2⟩
  · go_enter Tryz.func53, Tryz.ntmps53
    go_upto_region 1 with fail
    generalize w.alloc (.cells #[.int .i64 a, .int .i64 b, .int .i64 c, .int .i64 d, .int .i64 e, .int .i64 f] 35) = w0 at *
    obtain ⟨z0, z1, z2, z3, z4, z5⟩ := six_cells HS0.out.1
    go_wp2_with fail
    refine (C0.out _).mono ?_
    rintro r w' ⟨rfl, rfl⟩
    go_wp2_with fail
    refine (C1.out _).mono ?_
    rintro r w' ⟨rfl, rfl⟩
    go_wp2_with fail
    refine (C2.out _).mono ?_
    rintro r w' ⟨rfl, rfl⟩
    go_wp2_with fail
    refine (C3.out _).mono ?_
    rintro r w' ⟨rfl, rfl⟩
    go_wp2_with fail
    refine (C4.out _).mono ?_
    rintro r w' ⟨rfl, rfl⟩
    go_wp2_with fail
    go_ret
    exact ⟨rfl, HS0.out.2⟩
  · go_enter Tryz.func53, Tryz.ntmps53
    go_upto_region 1 with fail
    generalize w.alloc (.cells #[.int .i64 a, .int .i64 b, .int .i64 c, .int .i64 d, .int .i64 e, .int .i64 f] 35) = w0 at *
    obtain ⟨z0, z1, z2, z3, z4, z5⟩ := six_cells HS0.out.1
    go_wp2_with fail
    refine (C0.out _).mono ?_
    rintro r w' ⟨rfl, rfl⟩
    go_wp2_with fail
    refine (C1.out _).mono ?_
    rintro r w' ⟨rfl, rfl⟩
    go_wp2_with fail
    refine (C2.out _).mono ?_
    rintro r w' ⟨rfl, rfl⟩
    go_wp2_with fail
    refine (C3.out _).mono ?_
    rintro r w' ⟨rfl, rfl⟩
    go_wp2_with fail
    refine (C4.out _).mono ?_
    rintro r w' ⟨rfl, rfl⟩
    go_wp2_with fail
    refine (C5.out _).mono ?_
    rintro r w' ⟨rfl, rfl⟩
    go_wp2_with fail
    go_ret
    exact ⟨rfl, HS0.out.2⟩
set_option maxHeartbeats 1000000 in
theorem refhdvalid_any (a b c d e f : Int) (w : World) :
    Calls Tryz.prog 57 #[.agg #[.int .i64 a, .int .i64 b, .int .i64 c, .int .i64 d, .int .i64 e, .int .i64 f]] w fun r w' => r = .returned (.bool (decide (Hd.valid ⟨a, b, c, d, e, f⟩))) ∧ Below w.heap.size w w' := by
  have HS0 := Lib.hid (sd_new w #[.int .i64 a, .int .i64 b, .int .i64 c, .int .i64 d, .int .i64 e, .int .i64 f] 35)
  go_enter Tryz.func57, Tryz.ntmps57
  go_upto_region 1 with fail
  generalize w.alloc (.cells #[.int .i64 a, .int .i64 b, .int .i64 c, .int .i64 d, .int .i64 e, .int .i64 f] 35) = w0 at *
  obtain ⟨z0, z1, z2, z3, z4, z5⟩ := six_cells HS0.out.1
  go_wp2
  all_goals
    go_ret
    refine ⟨ret_bool ?_, HS0.out.2⟩
    first
      | exact (decide_eq_false (by unfold Hd.valid; simp only; omega)).symm
      | exact (decide_eq_true (by unfold Hd.valid; simp only; omega)).symm
      | exact decide_eq_decide.2 (by unfold Hd.valid; simp only; omega)
end Go.Proofs.YtgnbmmceffolmaaGreatDoor
end
section
namespace Go.Proofs.YtgnbmmceffolmaaGreatDoor
open Go.RowKit
set_option maxHeartbeats 1000000 in
theorem hdpayload_any (a b c d e f : Nat) (w : World) (ha : a ≤ 2) (hb : b ≤ 15) (hc : c ≤ 4294967295) (hd : d ≤ 281474976710655) (he : e ≤ 281474976710655) (hf : f ≤ 549755813888) :
    Calls Tryz.prog 111 #[.agg #[.int .i64 (a : Int), .int .i64 (b : Int), .int .i64 (c : Int), .int .i64 (d : Int), .int .i64 (e : Int), .int .i64 (f : Int)]] w fun r w' => ∃ A c', r = .returned (.slice A 23 c') ∧ Row w (Hd.body ⟨(a : Int), (b : Int), (c : Int), (d : Int), (e : Int), (f : Int)⟩) 23 A c' w' := by
  have HBD : Hid (Hd.body ⟨(a : Int), (b : Int), (c : Int), (d : Int), (e : Int), (f : Int)⟩ = ((((([] ++ Wire.be 1 a) ++ Wire.be 1 b) ++ Wire.be 4 c) ++ Wire.be 6 d) ++ Wire.be 6 e) ++ Wire.be 5 f) := by
    show _ = _
    simp [Hd.body]
  generalize Hd.body ⟨(a : Int), (b : Int), (c : Int), (d : Int), (e : Int), (f : Int)⟩ = bd at *
  have HS0 := Lib.hid (sd_new w #[.int .i64 (a : Int), .int .i64 (b : Int), .int .i64 (c : Int), .int .i64 (d : Int), .int .i64 (e : Int), .int .i64 (f : Int)] 35)
  go_enter Tryz.func111, Tryz.ntmps111
  go_wp2_with fail
  generalize w.alloc (.cells #[.int .i64 (a : Int), .int .i64 (b : Int), .int .i64 (c : Int), .int .i64 (d : Int), .int .i64 (e : Int), .int .i64 (f : Int)] 35) = w0 at *
  refine (put_row none 0 0 0 [] a 1 1 rfl w0 sl_nil rfl (by decide) (bs_nil _ _) (by decide) (by decide)).mono ?_
  rintro r w1 ⟨A1, n1, c1, p1, rfl, hp1, hn1, hr1⟩
  have h1 : n1 = 1 := hn1.out
  subst h1
  have HS1 := Lib.hid (HS0.out.next hr1.2.2.2.2 (by rfl) (by rfl) (by rfl) (by rfl))
  have HR1 := Lib.hid hr1
  clear hr1
  obtain ⟨z0, z1, z2, z3, z4, z5⟩ := six_cells HS1.out.1
  go_wp2_with fail
  refine (put_row A1 w1.heap.size 1 c1 p1 b 1 1 rfl w1 HR1.out.2.2.1 HR1.out.2.1 (by decide) HR1.out.2.2.2.1 (by decide) (by decide)).mono ?_
  rintro r w2 ⟨A2, n2, c2, p2, rfl, hp2, hn2, hr2⟩
  have h2 : n2 = 2 := hn2.out
  subst h2
  have HS2 := Lib.hid (HS1.out.next hr2.2.2.2.2 (by rfl) (by rfl) (by rfl) (by rfl))
  have HR2 := Lib.hid hr2
  clear hr2 z0 z1 z2 z3 z4 z5
  obtain ⟨z0, z1, z2, z3, z4, z5⟩ := six_cells HS2.out.1
  go_wp2_with fail
  refine (put_row A2 w2.heap.size 2 c2 p2 c 4 4 rfl w2 HR2.out.2.2.1 HR2.out.2.1 (by decide) HR2.out.2.2.2.1 (by decide) (by decide)).mono ?_
  rintro r w3 ⟨A3, n3, c3, p3, rfl, hp3, hn3, hr3⟩
  have h3 : n3 = 6 := hn3.out
  subst h3
  have HS3 := Lib.hid (HS2.out.next hr3.2.2.2.2 (by rfl) (by rfl) (by rfl) (by rfl))
  have HR3 := Lib.hid hr3
  clear hr3 z0 z1 z2 z3 z4 z5
  obtain ⟨z0, z1, z2, z3, z4, z5⟩ := six_cells HS3.out.1
  go_wp2_with fail
  refine (put_row A3 w3.heap.size 6 c3 p3 d 6 6 rfl w3 HR3.out.2.2.1 HR3.out.2.1 (by decide) HR3.out.2.2.2.1 (by decide) (by decide)).mono ?_
  rintro r w4 ⟨A4, n4, c4, p4, rfl, hp4, hn4, hr4⟩
  have h4 : n4 = 12 := hn4.out
  subst h4
  have HS4 := Lib.hid (HS3.out.next hr4.2.2.2.2 (by rfl) (by rfl) (by rfl) (by rfl))
  have HR4 := Lib.hid hr4
  clear hr4 z0 z1 z2 z3 z4 z5
  obtain ⟨z0, z1, z2, z3, z4, z5⟩ := six_cells HS4.out.1
  go_wp2_with fail
  refine (put_row A4 w4.heap.size 12 c4 p4 e 6 6 rfl w4 HR4.out.2.2.1 HR4.out.2.1 (by decide) HR4.out.2.2.2.1 (by decide) (by decide)).mono ?_
  rintro r w5 ⟨A5, n5, c5, p5, rfl, hp5, hn5, hr5⟩
  have h5 : n5 = 18 := hn5.out
  subst h5
  have HS5 := Lib.hid (HS4.out.next hr5.2.2.2.2 (by rfl) (by rfl) (by rfl) (by rfl))
  have HR5 := Lib.hid hr5
  clear hr5 z0 z1 z2 z3 z4 z5
  obtain ⟨z0, z1, z2, z3, z4, z5⟩ := six_cells HS5.out.1
  go_wp2_with fail
  refine (put_row A5 w5.heap.size 18 c5 p5 f 5 5 rfl w5 HR5.out.2.2.1 HR5.out.2.1 (by decide) HR5.out.2.2.2.1 (by decide) (by decide)).mono ?_
  rintro r w6 ⟨A6, n6, c6, p6, rfl, hp6, hn6, hr6⟩
  have h6 : n6 = 23 := hn6.out
  subst h6
  have HS6 := Lib.hid (HS5.out.next hr6.2.2.2.2 (by rfl) (by rfl) (by rfl) (by rfl))
  have HR6 := Lib.hid hr6
  clear hr6 z0 z1 z2 z3 z4 z5
  go_wp2
  go_ret
  have hp : bd = p6 := by rw [HBD.out, hp6.out, hp5.out, hp4.out, hp3.out, hp2.out, hp1.out]
  rw [hp]
  exact ⟨A6, c6, rfl, ownsRow_mono HR6.out.1 HS5.out.2.size, HR6.out.2.1, HR6.out.2.2.1, HR6.out.2.2.2.1, HS6.out.2⟩
theorem hd_nat {h : Hd.H} (hv : Hd.valid h) : ∃ a b c d e f : Nat, h = ⟨(a : Int), (b : Int), (c : Int), (d : Int), (e : Int), (f : Int)⟩ ∧ a ≤ 2 ∧ b ≤ 15 ∧ c ≤ 4294967295 ∧ d ≤ 281474976710655 ∧ e ≤ 281474976710655 ∧ f ≤ 549755813888 := by
  obtain ⟨a, b, c, d, e, f⟩ := h
  unfold Hd.valid at hv
  simp only at hv
  obtain ⟨a, rfl⟩ := Int.eq_ofNat_of_zero_le (show 0 ≤ a by omega)
  obtain ⟨b, rfl⟩ := Int.eq_ofNat_of_zero_le (show 0 ≤ b by omega)
  obtain ⟨c, rfl⟩ := Int.eq_ofNat_of_zero_le (show 0 ≤ c by omega)
  obtain ⟨d, rfl⟩ := Int.eq_ofNat_of_zero_le (show 0 ≤ d by omega)
  obtain ⟨e, rfl⟩ := Int.eq_ofNat_of_zero_le (show 0 ≤ e by omega)
  obtain ⟨f, rfl⟩ := Int.eq_ofNat_of_zero_le (show 0 ≤ f by omega)
  exact ⟨a, b, c, d, e, f, rfl, by omega, by omega, by omega, by omega, by omega, by omega⟩
set_option maxHeartbeats 1000000 in
theorem hdencode_any (a b c d e f x : Int) (w : World) (ht : Hid (TabW w)) (hz : 0 < w.heap.size) :
    Calls Tryz.prog 91 #[.agg #[.int .i64 a, .int .i64 b, .int .i64 c, .int .i64 d, .int .i64 e, .int .i64 f], .int .i64 x] w (FrEnc w (Hd.enc x ⟨a, b, c, d, e, f⟩) (Hd.err ⟨a, b, c, d, e, f⟩ x)) := by
  by_cases hv : Hd.valid ⟨a, b, c, d, e, f⟩
  · have HV : Hid (∀ W, Calls Tryz.prog 53 #[.agg #[.int .i64 a, .int .i64 b, .int .i64 c, .int .i64 d, .int .i64 e, .int .i64 f]] W fun r w' => r = .returned (.bool true) ∧ Below W.heap.size W w') := fun W => by
      have h := hdvalid_any a b c d e f W
      rwa [decide_eq_true hv] at h
    have HP : Hid (∀ W, Calls Tryz.prog 111 #[.agg #[.int .i64 a, .int .i64 b, .int .i64 c, .int .i64 d, .int .i64 e, .int .i64 f]] W fun r w' => ∃ A c', r = .returned (.slice A 23 c') ∧ Row W (Hd.body ⟨a, b, c, d, e, f⟩) 23 A c' w') := fun W => by
      obtain ⟨a', b', c', d', e', f', hh, q0, q1, q2, q3, q4, q5⟩ := hd_nat hv
      rw [hh]
      injection hh with h0 h1 h2 h3 h4 h5
      subst h0 h1 h2 h3 h4 h5
      exact hdpayload_any a' b' c' d' e' f' W q0 q1 q2 q3 q4 q5
    have he0 : Hd.err ⟨a, b, c, d, e, f⟩ x = Fr.err 1 0 x 23 := by
      rw [Hd.err_fr _ _ hv]
      unfold Fr.err
      by_cases hm : Fr.may 1 0 x
      · rw [if_pos hm, if_pos hm]; rfl
      · rw [if_neg hm, if_neg hm]
    have HEN : Hid (∀ W A c', Below w.heap.size w W → SlIs A 23 c' → Bs W W.heap.size A (Hd.body ⟨a, b, c, d, e, f⟩) → Calls Tryz.prog 80 #[.int .i64 1, .int .i64 0, .int .i64 x, .slice A 23 c'] W (FrEnc W (Hd.enc x ⟨a, b, c, d, e, f⟩) (Fr.err 1 0 x 23))) := fun W A c' hW h1 h2 =>
      frencode_any 1 0 x A W.heap.size 23 c' _ W (by decide) (Nat.le_refl _) h1 (Hd.body_length _) h2 (ht.out.below hW hz) (Nat.lt_of_lt_of_le hz hW.size)
    rw [he0]
    clear he0 hv
    generalize Hd.enc x ⟨a, b, c, d, e, f⟩ = en at *
    generalize Hd.body ⟨a, b, c, d, e, f⟩ = bd at *
    generalize Fr.err 1 0 x 23 = er at *
    unfold FrEnc at HEN ⊢
    have HS0 := Lib.hid (sd_new w #[.int .i64 a, .int .i64 b, .int .i64 c, .int .i64 d, .int .i64 e, .int .i64 f] 35)
    go_enter Tryz.func91, Tryz.ntmps91
    go_wp2_with fail
    generalize w.alloc (.cells #[.int .i64 a, .int .i64 b, .int .i64 c, .int .i64 d, .int .i64 e, .int .i64 f] 35) = w0 at *
    refine (HV.out _).mono ?_
    rintro r w1 ⟨rfl, hb1⟩
    have HS1 := Lib.hid (HS0.out.next hb1 (by rfl) (by rfl) (by rfl) (by rfl))
    clear hb1
    obtain ⟨z0, z1, z2, z3, z4, z5⟩ := six_cells HS1.out.1
    go_wp2_with fail
    refine (HP.out _).mono ?_
    rintro r w2 ⟨A2, c2, rfl, hr2⟩
    have HS2 := Lib.hid (HS1.out.next hr2.2.2.2.2 (by rfl) (by rfl) (by rfl) (by rfl))
    have HR2 := Lib.hid hr2
    clear hr2 z0 z1 z2 z3 z4 z5
    go_wp2_with fail
    refine (HEN.out _ _ _ HS2.out.2 HR2.out.2.2.1 HR2.out.2.2.2.1).mono ?_
    rintro r w3 ⟨A3, n3, c3, rfl, hs3, hy3, hx3, hb3⟩
    have HS3 := Lib.hid (HS2.out.next hb3 (by rfl) (by rfl) (by rfl) (by rfl))
    have HY3 := Lib.hid (And.intro hs3 (And.intro hy3 hx3))
    clear hs3 hy3 hx3 hb3
    go_wp2
    go_ret2
    exact ⟨A3, n3, c3, rfl, HY3.out.1, fun h => ⟨(HY3.out.2.1 h).1, ownsRow_mono (HY3.out.2.1 h).2 HS2.out.2.size⟩, HY3.out.2.2, HS3.out.2⟩
  · have HV : Hid (∀ W, Calls Tryz.prog 53 #[.agg #[.int .i64 a, .int .i64 b, .int .i64 c, .int .i64 d, .int .i64 e, .int .i64 f]] W fun r w' => r = .returned (.bool false) ∧ Below W.heap.size W w') := fun W => by
      have h := hdvalid_any a b c d e f W
      rwa [decide_eq_false hv] at h
    have he0 : Hd.err ⟨a, b, c, d, e, f⟩ x = 4 := by unfold Hd.err; rw [if_neg hv]
    rw [he0]
    clear he0 hv
    have HS0 := Lib.hid (sd_new w #[.int .i64 a, .int .i64 b, .int .i64 c, .int .i64 d, .int .i64 e, .int .i64 f] 35)
    go_enter Tryz.func91, Tryz.ntmps91
    go_wp2_with fail
    generalize w.alloc (.cells #[.int .i64 a, .int .i64 b, .int .i64 c, .int .i64 d, .int .i64 e, .int .i64 f] 35) = w0 at *
    refine (HV.out _).mono ?_
    rintro r w1 ⟨rfl, hb1⟩
    have HS1 := Lib.hid (HS0.out.next hb1 (by rfl) (by rfl) (by rfl) (by rfl))
    clear hb1
    go_wp2
    go_ret2
    exact ⟨none, 0, 0, rfl, sl_nil, fun e => absurd e (by decide), fun _ => rfl, HS1.out.2⟩
end Go.Proofs.YtgnbmmceffolmaaGreatDoor
end
section
namespace Go.Proofs.YtgnbmmceffolmaaGreatDoor
open Go.RowKit
theorem bs_box (w w0 : World) (a b : Nat) (ha : a < 256) (hb : b < 256) (h : Below w.heap.size w w0) : Bs (w0.alloc (.cells #[.int .u8 (a : Int), .int .u8 (b : Int)] 5)) (w0.heap.size + 1) (some ⟨w0.heap.size, 0, none⟩) [a, b] ∧ Below w.heap.size w (w0.alloc (.cells #[.int .u8 (a : Int), .int .u8 (b : Int)] 5)) :=
  ⟨bs_lit w0 [a, b] (fun x hx => by rcases List.mem_cons.1 hx with rfl | hx; exact ha; rw [List.mem_singleton.1 hx]; exact hb) (0, 0), h.alloc h.size _⟩
set_option maxHeartbeats 1000000 in
theorem refhdenc_nat (a b c d e f x : Nat) (w : World) (ha : a ≤ 2) (hb : b ≤ 15) (hc : c ≤ 4294967295) (hd : d ≤ 281474976710655) (he : e ≤ 281474976710655) (hf : f ≤ 549755813888) (hx : x < 1048576) :
    Calls Tryz.prog 41 #[.agg #[.int .i64 (a : Int), .int .i64 (b : Int), .int .i64 (c : Int), .int .i64 (d : Int), .int .i64 (e : Int), .int .i64 (f : Int)], .int .i64 (x : Int)] w fun r w' => ∃ A3 c3, r = .returned (.slice A3 64 c3) ∧ SlIs A3 64 c3 ∧ Bs w' w'.heap.size A3 (Hd.enc (x : Int) ⟨(a : Int), (b : Int), (c : Int), (d : Int), (e : Int), (f : Int)⟩) ∧ Below w.heap.size w w' := by
  have HEB : Hid (Hd.enc (x : Int) ⟨(a : Int), (b : Int), (c : Int), (d : Int), (e : Int), (f : Int)⟩ = Fr.enc 1 0 (x : Int) (((([a, b] ++ Wire.be 4 c) ++ Wire.be 6 d) ++ Wire.be 6 e) ++ Wire.be 5 f)) := by
    show _ = _
    have e1 : a % 256 = a := by omega
    have e2 : b % 256 = b := by omega
    unfold Hd.enc Hd.body
    simp only [Int.toNat_natCast, Rc.be_one, e1, e2, List.append_assoc, List.cons_append, List.nil_append]
  generalize Hd.enc (x : Int) ⟨(a : Int), (b : Int), (c : Int), (d : Int), (e : Int), (f : Int)⟩ = en at *
  have ea : IntKind.u8.wrap (a : Int) = (a : Int) := by rw [IntKind.wrap_u8]; omega
  have eb : IntKind.u8.wrap (b : Int) = (b : Int) := by rw [IntKind.wrap_u8]; omega
  have HAB : Hid (a < 256 ∧ b < 256) := ⟨by omega, by omega⟩
  have HS0 := Lib.hid (sd_new w #[.int .i64 (a : Int), .int .i64 (b : Int), .int .i64 (c : Int), .int .i64 (d : Int), .int .i64 (e : Int), .int .i64 (f : Int)] 35)
  go_enter Tryz.func41, Tryz.ntmps41
  go_upto_region 1 with fail
  generalize w.alloc (.cells #[.int .i64 (a : Int), .int .i64 (b : Int), .int .i64 (c : Int), .int .i64 (d : Int), .int .i64 (e : Int), .int .i64 (f : Int)] 35) = w0 at *
  obtain ⟨z0, z1, z2, z3, z4, z5⟩ := six_cells HS0.out.1
  have hbb := bs_box w w0 a b HAB.out.1 HAB.out.2 HS0.out.2
  have HS1 : Hid (Sd w w.heap.size (.cells #[.int .i64 (a : Int), .int .i64 (b : Int), .int .i64 (c : Int), .int .i64 (d : Int), .int .i64 (e : Int), .int .i64 (f : Int)] 35 (0, 0)) (w0.alloc (.cells #[.int .u8 (a : Int), .int .u8 (b : Int)] 5))) := ⟨(heap_alloc_old _ _ (Array.getElem?_eq_some_iff.1 HS0.out.1).1).trans HS0.out.1, hbb.2⟩
  have HB1 : Hid (Bs (w0.alloc (.cells #[.int .u8 (a : Int), .int .u8 (b : Int)] 5)) (w0.heap.size + 1) (some ⟨w0.heap.size, 0, none⟩) [a, b]) := hbb.1
  clear hbb
  obtain ⟨y0, y1, y2, y3, y4, y5⟩ := six_cells HS1.out.1
  go_wp2_with fail
  have sl2 : SlIs (some (⟨w0.heap.size, 0, none⟩ : Addr)) 2 2 := ⟨(fun e => by cases e), Nat.le_refl _, by decide⟩
  refine (refput_row (some ⟨w0.heap.size, 0, none⟩) (w0.heap.size + 1) 2 2 [a, b] c 4 4 rfl _ sl2 rfl (by decide) HB1.out (by decide) (by decide)).mono ?_
  rintro r w3 ⟨A3, n3, c3, p3, rfl, hp3, hn3, hr3⟩
  have h3 : n3 = 6 := hn3.out
  subst h3
  have HS3 := Lib.hid (HS1.out.next hr3.2.2.2.2 (by rfl) (by rfl) (by rfl) (by rfl))
  have HR3 := Lib.hid hr3
  clear hr3 sl2 z0 z1 z2 z3 z4 z5 y0 y1 y2 y3 y4 y5
  obtain ⟨z0, z1, z2, z3, z4, z5⟩ := six_cells HS3.out.1
  go_wp2_with fail
  refine (refput_row A3 w3.heap.size 6 c3 p3 d 6 6 rfl w3 HR3.out.2.2.1 HR3.out.2.1 (by decide) HR3.out.2.2.2.1 (by decide) (by decide)).mono ?_
  rintro r w4 ⟨A4, n4, c4, p4, rfl, hp4, hn4, hr4⟩
  have h4 : n4 = 12 := hn4.out
  subst h4
  have HS4 := Lib.hid (HS3.out.next hr4.2.2.2.2 (by rfl) (by rfl) (by rfl) (by rfl))
  have HR4 := Lib.hid hr4
  clear hr4 z0 z1 z2 z3 z4 z5
  obtain ⟨z0, z1, z2, z3, z4, z5⟩ := six_cells HS4.out.1
  go_wp2_with fail
  refine (refput_row A4 w4.heap.size 12 c4 p4 e 6 6 rfl w4 HR4.out.2.2.1 HR4.out.2.1 (by decide) HR4.out.2.2.2.1 (by decide) (by decide)).mono ?_
  rintro r w5 ⟨A5, n5, c5, p5, rfl, hp5, hn5, hr5⟩
  have h5 : n5 = 18 := hn5.out
  subst h5
  have HS5 := Lib.hid (HS4.out.next hr5.2.2.2.2 (by rfl) (by rfl) (by rfl) (by rfl))
  have HR5 := Lib.hid hr5
  clear hr5 z0 z1 z2 z3 z4 z5
  obtain ⟨z0, z1, z2, z3, z4, z5⟩ := six_cells HS5.out.1
  go_wp2_with fail
  refine (refput_row A5 w5.heap.size 18 c5 p5 f 5 5 rfl w5 HR5.out.2.2.1 HR5.out.2.1 (by decide) HR5.out.2.2.2.1 (by decide) (by decide)).mono ?_
  rintro r w6 ⟨A6, n6, c6, p6, rfl, hp6, hn6, hr6⟩
  have h6 : n6 = 23 := hn6.out
  subst h6
  have HS6 := Lib.hid (HS5.out.next hr6.2.2.2.2 (by rfl) (by rfl) (by rfl) (by rfl))
  have HR6 := Lib.hid hr6
  have HEP : Hid (en = Fr.enc 1 0 (x : Int) p6) := by
    show _ = _
    rw [HEB.out, hp6.out, hp5.out, hp4.out, hp3.out]
  clear hr6 z0 z1 z2 z3 z4 z5 hp6 hp5 hp4 hp3 HEB
  have HE := Lib.hid (reffrenc_any 1 0 x A6 w6.heap.size 23 c6 p6 w6 (by decide) (by decide) hx (Nat.le_refl _) HR6.out.2.2.1 HR6.out.2.1 (by decide) HR6.out.2.2.2.1)
  go_wp2_with fail
  refine HE.out.mono ?_
  rintro r w7 ⟨A7, c7, rfl, hs7, hb7, hbel7⟩
  have HS7 := Lib.hid (HS6.out.next hbel7 (by rfl) (by rfl) (by rfl) (by rfl))
  have HR7 := Lib.hid (And.intro hs7 hb7)
  clear hs7 hb7 hbel7
  go_wp2
  go_ret
  rw [HEP.out]
  exact ⟨A7, c7, rfl, HR7.out.1, HR7.out.2, HS7.out.2⟩
theorem refhdenc_any (a b c d e f x : Int) (w : World) (hv : Hd.valid ⟨a, b, c, d, e, f⟩) (hx : 0 ≤ x ∧ x < 1048576) :
    Calls Tryz.prog 41 #[.agg #[.int .i64 a, .int .i64 b, .int .i64 c, .int .i64 d, .int .i64 e, .int .i64 f], .int .i64 x] w fun r w' => ∃ A3 c3, r = .returned (.slice A3 64 c3) ∧ SlIs A3 64 c3 ∧ Bs w' w'.heap.size A3 (Hd.enc x ⟨a, b, c, d, e, f⟩) ∧ Below w.heap.size w w' := by
  obtain ⟨a', b', c', d', e', f', hh, q0, q1, q2, q3, q4, q5⟩ := hd_nat hv
  obtain ⟨x, rfl⟩ := Int.eq_ofNat_of_zero_le hx.1
  injection hh with h0 h1 h2 h3 h4 h5
  subst h0 h1 h2 h3 h4 h5
  exact refhdenc_nat a' b' c' d' e' f' x w q0 q1 q2 q3 q4 q5 (by omega)
end Go.Proofs.YtgnbmmceffolmaaGreatDoor
end
section
set_option maxRecDepth 100000
namespace Go.Proofs.YtgnbmmceffolmaaGreatDoor
open Go.RowKit
namespace Rg
/-- The header was written, and made durable. -/
def begun (fs : Flash) (n : Nat) (x : Int) (b : List Nat) : Flash × Int := (syncFs (fs.write n x b, fs.writeErr n x b), syncErr (fs.write n x b, fs.writeErr n x b))
/-- The error of a region that cannot be opened. -/
def may (l : Sb.L) (h : Hd.H) : Int := if Hd.valid h ∧ h.ver = l.ver ∧ h.lay = l.id then Pk.may l h.slot h.seq else 4
end Rg
def OpBx (B B' : Nat) (a b c d hv slot lay seq tail now : Int) (W : World) : Prop :=
  W.heap[B]? = some (.cells #[.int .i64 a, .int .i64 b, .int .i64 c, .int .i64 d] 29 (0, 0)) ∧ W.heap[B']? = some (.cells #[.int .i64 hv, .int .i64 slot, .int .i64 lay, .int .i64 seq, .int .i64 tail, .int .i64 now] 35 (0, 0))
section
variable {B B' : Nat} {a b c d hv slot lay seq tail now : Int} {W W' : World}
theorem OpBx.cells (h : OpBx B B' a b c d hv slot lay seq tail now W) : (W.cell? ⟨B, 0, none⟩ = some (.int .i64 a) ∧ W.cell? ⟨B, 1, none⟩ = some (.int .i64 b) ∧ W.cell? ⟨B, 2, none⟩ = some (.int .i64 c) ∧ W.cell? ⟨B, 3, none⟩ = some (.int .i64 d)) ∧
    W.cell? ⟨B', 0, none⟩ = some (.int .i64 hv) ∧ W.cell? ⟨B', 1, none⟩ = some (.int .i64 slot) ∧ W.cell? ⟨B', 2, none⟩ = some (.int .i64 lay) ∧ W.cell? ⟨B', 3, none⟩ = some (.int .i64 seq) ∧ W.cell? ⟨B', 4, none⟩ = some (.int .i64 tail) ∧ W.cell? ⟨B', 5, none⟩ = some (.int .i64 now) := ⟨four_cells h.1, six_cells h.2⟩
theorem OpBx.lt (h : OpBx B B' a b c d hv slot lay seq tail now W) : B < W.heap.size ∧ B' < W.heap.size := ⟨(Array.getElem?_eq_some_iff.1 h.1).1, (Array.getElem?_eq_some_iff.1 h.2).1⟩
theorem OpBx.kept {S : Nat → Prop} (h : OpBx B B' a b c d hv slot lay seq tail now W) (hk : Kept S W W') (h1 : ¬ S B) (h2 : ¬ S B') : OpBx B B' a b c d hv slot lay seq tail now W' := ⟨(hk.block _ h.lt.1 h1).trans h.1, (hk.block _ h.lt.2 h2).trans h.2⟩
theorem OpBx.next (h : OpBx B B' a b c d hv slot lay seq tail now W) (hb : Below W.heap.size W W') : OpBx B B' a b c d hv slot lay seq tail now W' := h.kept (Kept.of_new (S := fun _ => False) hb) (fun e => e) fun e => e
theorem OpBx.made (w : World) : OpBx w.heap.size (w.heap.size + 1) a b c d hv slot lay seq tail now ((w.alloc (.cells #[.int .i64 a, .int .i64 b, .int .i64 c, .int .i64 d] 29)).alloc (.cells #[.int .i64 hv, .int .i64 slot, .int .i64 lay, .int .i64 seq, .int .i64 tail, .int .i64 now] 35)) := by
  refine ⟨?_, ?_⟩
  · rw [← heap_alloc_new w (.cells #[.int .i64 a, .int .i64 b, .int .i64 c, .int .i64 d] 29)]
    exact ((Below.refl _ (w.alloc (.cells #[.int .i64 a, .int .i64 b, .int .i64 c, .int .i64 d] 29))).alloc (Nat.le_refl _) _).block _ (by simp)
  · have h := heap_alloc_new (w.alloc (.cells #[.int .i64 a, .int .i64 b, .int .i64 c, .int .i64 d] 29)) (.cells #[.int .i64 hv, .int .i64 slot, .int .i64 lay, .int .i64 seq, .int .i64 tail, .int .i64 now] 35)
    rwa [show (w.alloc (.cells #[.int .i64 a, .int .i64 b, .int .i64 c, .int .i64 d] 29)).heap.size = w.heap.size + 1 by simp] at h
end
section
variable {w : World} {gd cd md n : Nat} {fs : Flash}
set_option maxHeartbeats 2000000 in
theorem rgbegin_any (hv slot lay seq tail now x : Int) (hval : Hd.valid ⟨hv, slot, lay, seq, tail, now⟩) (hx : 0 ≤ x ∧ x < 1048576) (hd : Hid (Dev w gd cd md n fs)) (ht : Hid (TabW w)) (hz : 0 < w.heap.size) (hwr : fs.wr < 4000000000000000000) :
    Calls Tryz.prog 60 #[.pointer (some ⟨gd, 0, none⟩), .int .i64 x, .agg #[.int .i64 hv, .int .i64 slot, .int .i64 lay, .int .i64 seq, .int .i64 tail, .int .i64 now]] w fun e w' => e = .returned (.int .i64 (Rg.begun fs n x (Hd.enc x ⟨hv, slot, lay, seq, tail, now⟩)).2) ∧ Dev w' gd cd md n (Rg.begun fs n x (Hd.enc x ⟨hv, slot, lay, seq, tail, now⟩)).1 ∧ Kept (devS gd cd md) w w' := by
  have HS0 := Lib.hid (sd_new w #[.int .i64 hv, .int .i64 slot, .int .i64 lay, .int .i64 seq, .int .i64 tail, .int .i64 now] 35)
  have HEN : Hid (∀ W, Below w.heap.size w W → Calls Tryz.prog 91 #[.agg #[.int .i64 hv, .int .i64 slot, .int .i64 lay, .int .i64 seq, .int .i64 tail, .int .i64 now], .int .i64 x] W (FrEnc W (Hd.enc x ⟨hv, slot, lay, seq, tail, now⟩) (Hd.err ⟨hv, slot, lay, seq, tail, now⟩ x))) := fun W hb => hdencode_any hv slot lay seq tail now x W (Lib.hid (ht.out.below hb hz)) (Nat.lt_of_lt_of_le hz hb.size)
  have her : Hd.err ⟨hv, slot, lay, seq, tail, now⟩ x = 0 := by unfold Hd.err; rw [if_pos hval, if_pos hx]
  have HLT : Hid (∀ y ∈ Hd.enc x ⟨hv, slot, lay, seq, tail, now⟩, y < 256) := Hd.enc_lt _ _
  have HLE : Hid ((Hd.enc x ⟨hv, slot, lay, seq, tail, now⟩).length = 64) := Hd.enc_length _ _
  unfold FrEnc at HEN
  rw [her] at HEN
  unfold Rg.begun Rg.syncFs Rg.syncErr
  simp only
  clear her
  generalize Hd.enc x ⟨hv, slot, lay, seq, tail, now⟩ = en at *
  have HW : Hid (∀ W A4 c4, Dev W gd cd md n fs → Bs W W.heap.size A4 en → Calls Tryz.prog 92 #[.pointer (some ⟨gd, 0, none⟩), .int .i64 x, .slice A4 64 c4] W (WriteDid W gd cd md n (fs.write n x en) (fs.writeErr n x en))) := fun W A4 c4 h1 h2 =>
    write_any x A4 W.heap.size 64 c4 en (by decide) HLE.out h2 h1 (by omega)
  have HBA : Hid (∀ W, Dev W gd cd md n (fs.write n x en) → Calls Tryz.prog 64 #[.pointer (some ⟨gd, 0, none⟩)] W (BarrierDid W gd cd md n (fs.write n x en).barrier (fs.write n x en).barrierErr)) := fun W h1 => barrier_any h1
  unfold WriteDid at HW
  unfold BarrierDid at HBA
  generalize (fs.write n x en).barrierErr = be at *
  generalize (fs.write n x en).barrier = f2 at *
  generalize fs.write n x en = f1 at *
  generalize fs.writeErr n x en = we at *
  by_cases h0 : we = 0
  all_goals
    first
      | (subst h0; rw [if_pos rfl, if_pos rfl])
      | (rw [if_neg h0, if_neg h0]; have e2 : (we != 0) = true := by simpa using h0)
    go_enter Tryz.func60, Tryz.ntmps60
    go_upto_region 1 with fail
    generalize w.alloc (.cells #[.int .i64 hv, .int .i64 slot, .int .i64 lay, .int .i64 seq, .int .i64 tail, .int .i64 now] 35) = w0 at *
    obtain ⟨z0, z1, z2, z3, z4, z5⟩ := six_cells HS0.out.1
    go_wp2_with fail
    refine (HEN.out _ HS0.out.2).mono ?_
    rintro e w1 ⟨A1, m1, k1, rfl, hs1, h1, -, hb1⟩
    obtain ⟨rfl, hown⟩ := h1 trivial
    obtain ⟨A', k', he, hbs, -⟩ := own_bytes hown HLT.out
    injection he with he1 _ he2
    subst he1 he2
    have HBS := Lib.hid hbs
    have HD1 : Hid (Dev w1 gd cd md n fs) := hd.out.on (HS0.out.2.trans (hb1.mono HS0.out.2.size))
    have HK1 : Hid (Kept (devS gd cd md) w w1) := Kept.of_new (HS0.out.2.trans (hb1.mono HS0.out.2.size))
    clear hown hbs hb1 hs1 h1 z0 z1 z2 z3 z4 z5
    go_wp2_with fail
    refine (HW.out _ _ _ HD1.out HBS.out).mono ?_
    rintro e w2 ⟨rfl, hd2, hk2⟩
    have HD2 := Lib.hid hd2
    have HK2 := Lib.hid (HK1.out.trans hk2)
    clear hd2 hk2
    first
      | (go_wp2_with fail
         refine (HBA.out _ HD2.out).mono ?_
         rintro e w3 ⟨rfl, hd3, hk3⟩
         have HD3 := Lib.hid hd3
         have HK3 : Hid (Kept (devS gd cd md) w w3) := HK2.out.trans (hk3.mono fun j _ hj => by
           rcases hj with hj | hj
           · exact .inl hj
           · exact .inr (.inr hj))
         clear hd3 hk3
         go_wp2
         go_ret
         exact ⟨rfl, HD3.out, HK3.out⟩)
      | (go_wp2
         go_ret
         exact ⟨rfl, HD2.out, HK2.out⟩)
/-- What Open leaves. -/
def RgOpened (W w : World) (gd cd md n : Nat) (fs : Flash) (a b c d hv slot lay seq tail now : Int) (e : Ending) (w' : World) : Prop :=
  (Rg.may ⟨a, b, c, d⟩ ⟨hv, slot, lay, seq, tail, now⟩ ≠ 0 ∧ e = .returned (.tuple #[.pointer none, .int .i64 (Rg.may ⟨a, b, c, d⟩ ⟨hv, slot, lay, seq, tail, now⟩)]) ∧ Below w.heap.size w w') ∨
  (Rg.may ⟨a, b, c, d⟩ ⟨hv, slot, lay, seq, tail, now⟩ = 0 ∧ (Rg.begun fs n (Gm.spot ⟨a, b, c, d⟩ slot) (Hd.enc (Gm.spot ⟨a, b, c, d⟩ slot) ⟨hv, slot, lay, seq, tail, now⟩)).2 ≠ 0 ∧ e = .returned (.tuple #[.pointer none, .int .i64 (Rg.begun fs n (Gm.spot ⟨a, b, c, d⟩ slot) (Hd.enc (Gm.spot ⟨a, b, c, d⟩ slot) ⟨hv, slot, lay, seq, tail, now⟩)).2]) ∧ Dev w' gd cd md n (Rg.begun fs n (Gm.spot ⟨a, b, c, d⟩ slot) (Hd.enc (Gm.spot ⟨a, b, c, d⟩ slot) ⟨hv, slot, lay, seq, tail, now⟩)).1 ∧ Kept (devS gd cd md) w w') ∨
  (Rg.may ⟨a, b, c, d⟩ ⟨hv, slot, lay, seq, tail, now⟩ = 0 ∧ (Rg.begun fs n (Gm.spot ⟨a, b, c, d⟩ slot) (Hd.enc (Gm.spot ⟨a, b, c, d⟩ slot) ⟨hv, slot, lay, seq, tail, now⟩)).2 = 0 ∧ ∃ r gp cl, e = .returned (.tuple #[.pointer (some ⟨r, 0, none⟩), .int .i64 0]) ∧ StG W w' cl r gd cd md n (Rg.begun fs n (Gm.spot ⟨a, b, c, d⟩ slot) (Hd.enc (Gm.spot ⟨a, b, c, d⟩ slot) ⟨hv, slot, lay, seq, tail, now⟩)).1 a b c d hv slot lay seq tail now gp [] 0 ∧ Kept (devS gd cd md) w w' ∧ ∀ k, cl k ≠ 0 → devS gd cd md k ∨ w.heap.size ≤ k)
def opCol (i j r gd cd md k : Nat) : Nat := if k = r then 7 else if k = gd ∨ k = cd ∨ k = md then 8 else if i ≤ k ∧ k < j then 1 else 0
theorem opCol_zero {i j r gd cd md k : Nat} (h : opCol i j r gd cd md k ≠ 0) : k = r ∨ (k = gd ∨ k = cd ∨ k = md) ∨ (i ≤ k ∧ k < j) := by
  unfold opCol at h
  split at h
  · next e => exact .inl e
  · split at h
    · next e => exact .inr (.inl e)
    · split at h
      · next e => exact .inr (.inr e)
      · exact absurd rfl h
/-- The region's box is made behind all that it holds. -/
theorem stg_start {W w wa wb wc : World} {gd cd md n gp : Nat} {f : Flash} {a b c d hv slot lay seq tail now : Int} (hw : Below W.heap.size W w) (hnew : DevNew W gd cd md) (hd0 : gd < w.heap.size ∧ cd < w.heap.size ∧ md < w.heap.size) (h1 : w.heap.size ≤ wa.heap.size) (hp : PkIs 134 wb (fun k => wa.heap.size ≤ k) gp a b c d slot seq [] 0) (hk : Kept (devS gd cd md) wb wc) (hd : Dev wc gd cd md n f) (hkw : Kept (devS gd cd md) w wc) (h2 : w.heap.size ≤ wb.heap.size) :
    ∃ cl, StG W (wc.alloc (RgBox 113 gd gp hv slot lay seq tail now)) cl wc.heap.size gd cd md n f a b c d hv slot lay seq tail now gp [] 0 ∧ ∀ k, cl k ≠ 0 → devS gd cd md k ∨ w.heap.size ≤ k := by
  have hal : Below wc.heap.size wc (wc.alloc (RgBox 113 gd gp hv slot lay seq tail now)) := (Below.refl _ _).alloc (Nat.le_refl _) _
  have hsz : (wc.alloc (RgBox 113 gd gp hv slot lay seq tail now)).heap.size = wc.heap.size + 1 := by simp
  have hbc := hk.size
  have hww := hw.size
  have hn := hnew
  unfold DevNew at hn
  refine ⟨opCol wa.heap.size wb.heap.size wc.heap.size gd cd md, ⟨⟨fun k hk => ?_, fun k hk => ?_⟩, ?_, heap_alloc_new _ _, if_pos rfl, ?_, hd.on hal, ?_, ?_, ?_⟩, fun k hk => ?_⟩
  · rw [hsz] at hk
    unfold opCol
    rw [if_neg (by omega), if_neg (by omega), if_neg (by omega)]
  · have := opCol_zero hk
    omega
  · exact (dev_below hw hnew hkw).trans (hal.mono (by omega))
  · refine (((hp.mono (U := fun k => wa.heap.size ≤ k ∧ k < wb.heap.size) fun k hlt e => ⟨e, hlt⟩).kept hk fun k _ e e' => ?_).new hal).mono fun k _ e => ?_
    · unfold devS at e'; omega
    · show opCol _ _ _ _ _ _ k = 1
      unfold opCol
      rw [if_neg (by omega), if_neg (by omega), if_pos e]
  · unfold opCol
    rw [if_neg (by omega), if_pos (.inl rfl)]
  · unfold opCol
    rw [if_neg (by omega), if_pos (.inr (.inl rfl))]
  · unfold opCol
    rw [if_neg (by omega), if_pos (.inr (.inr rfl))]
  · unfold devS
    have := opCol_zero hk
    omega
theorem open_ways (L : Sb.L) (h : Hd.H) (v : Bool) (hv : decide (Hd.valid h) = v) : (Rg.may L h = 4 ∧ (v = false ∨ (v = true ∧ ((h.ver != L.ver) = true ∨ ((h.ver != L.ver) = false ∧ (h.lay != L.id) = true))))) ∨ (Rg.may L h = Pk.may L h.slot h.seq ∧ Hd.valid h ∧ v = true ∧ (h.ver != L.ver) = false ∧ (h.lay != L.id) = false) := by
  unfold Rg.may
  by_cases e : Hd.valid h
  · obtain rfl : true = v := by rw [← hv, decide_eq_true e]
    by_cases e1 : h.ver = L.ver
    · by_cases e2 : h.lay = L.id
      · rw [if_pos ⟨e, e1, e2⟩]
        exact .inr ⟨rfl, e, rfl, by simp [e1], by simp [e2]⟩
      · rw [if_neg (fun h => e2 h.2.2)]
        exact .inl ⟨rfl, .inr ⟨rfl, .inr ⟨by simp [e1], by simpa using e2⟩⟩⟩
    · rw [if_neg (fun h => e1 h.2.1)]
      exact .inl ⟨rfl, .inr ⟨rfl, .inl (by simpa using e1)⟩⟩
  · obtain rfl : false = v := by rw [← hv, decide_eq_false e]
    rw [if_neg (fun h => e h.1)]
    exact .inl ⟨rfl, .inl rfl⟩
set_option maxHeartbeats 4000000 in
theorem rgopen_any {W : World} (a b c d hv slot lay seq tail now : Int) (hw : Hid (Below W.heap.size W w)) (hnew : Hid (DevNew W gd cd md)) (hd : Hid (Dev w gd cd md n fs)) (ht : Hid (TabW w)) (hz : 0 < w.heap.size) (hwr : fs.wr < 4000000000000000000) :
    Calls Tryz.prog 28 #[.pointer (some ⟨gd, 0, none⟩), .agg #[.int .i64 a, .int .i64 b, .int .i64 c, .int .i64 d], .agg #[.int .i64 hv, .int .i64 slot, .int .i64 lay, .int .i64 seq, .int .i64 tail, .int .i64 now]] w (RgOpened W w gd cd md n fs a b c d hv slot lay seq tail now) := by
  have HX0 := Lib.hid (OpBx.made (a := a) (b := b) (c := c) (d := d) (hv := hv) (slot := slot) (lay := lay) (seq := seq) (tail := tail) (now := now) w)
  have HB0 : Hid (Below w.heap.size w ((w.alloc (.cells #[.int .i64 a, .int .i64 b, .int .i64 c, .int .i64 d] 29)).alloc (.cells #[.int .i64 hv, .int .i64 slot, .int .i64 lay, .int .i64 seq, .int .i64 tail, .int .i64 now] 35))) := ((Below.refl _ w).alloc (Nat.le_refl _) _).alloc (by simp) _
  have HV := Lib.hid (fun W => hdvalid_any hv slot lay seq tail now W)
  have HN := Lib.hid (fun W => pknew_any a b c d slot seq W)
  unfold PkNew at HN
  obtain ⟨v, hvv⟩ : ∃ v, decide (Hd.valid ⟨hv, slot, lay, seq, tail, now⟩) = v := ⟨_, rfl⟩
  rw [hvv] at HV
  rcases open_ways ⟨a, b, c, d⟩ ⟨hv, slot, lay, seq, tail, now⟩ v hvv with ⟨hm, hway⟩ | ⟨hm, hval, hv1, e1, e2⟩
  · have HM := Lib.hid hm
    have HFIN : Hid (∀ w', Below w.heap.size w w' → RgOpened W w gd cd md n fs a b c d hv slot lay seq tail now (.returned (.tuple #[.pointer none, .int .i64 4])) w') := fun w' hb => .inl ⟨by rw [HM.out]; decide, by rw [HM.out], hb⟩
    clear hm HM HN hvv hw hnew hd
    simp only at hway
    generalize RgOpened W w gd cd md n fs a b c d hv slot lay seq tail now = Q at *
    rcases hway with rfl | ⟨rfl, e1 | ⟨e1, e2⟩⟩
    all_goals
      go_enter Tryz.func28, Tryz.ntmps28
      go_upto_region 1 with fail
      generalize (w.alloc (.cells #[.int .i64 a, .int .i64 b, .int .i64 c, .int .i64 d] 29)).alloc (.cells #[.int .i64 hv, .int .i64 slot, .int .i64 lay, .int .i64 seq, .int .i64 tail, .int .i64 now] 35) = w0 at *
      obtain ⟨⟨z0, z1, z2, z3⟩, y0, y1, y2, y3, y4, y5⟩ := HX0.out.cells
      go_wp2_with fail
      refine (HV.out _).mono ?_
      rintro e w1 ⟨rfl, hb1⟩
      have HX1 := Lib.hid (HX0.out.next hb1)
      have HB1 := Lib.hid (HB0.out.trans (hb1.mono HB0.out.size))
      clear hb1 z0 z1 z2 z3 y0 y1 y2 y3 y4 y5
      obtain ⟨⟨z0, z1, z2, z3⟩, y0, y1, y2, y3, y4, y5⟩ := HX1.out.cells
      go_wp2
      exact HFIN.out _ HB1.out
  · have HM := Lib.hid hm
    subst hv1
    simp only at e1 e2 hm
    by_cases hok : Pk.ok ⟨a, b, c, d⟩ slot seq
    · have hm0 := Pk.may_zero hok
      have HM0 : Hid (Rg.may ⟨a, b, c, d⟩ ⟨hv, slot, lay, seq, tail, now⟩ = 0) := hm.trans hm0
      rw [hm0] at HN
      have hspot := Pk.spot_le hok
      have HFI : Hid (∀ W, Calls Tryz.prog 21 #[.agg #[.int .i64 a, .int .i64 b, .int .i64 c, .int .i64 d], .int .i64 slot] W fun r w' => r = .returned (.int .i64 (Gm.spot ⟨a, b, c, d⟩ slot)) ∧ Below W.heap.size W w') := fun W => by rw [← Pk.first_eq hok]; exact gmfirst_any a b c d slot W
      have HBG : Hid (∀ W', Below w.heap.size w W' → Calls Tryz.prog 60 #[.pointer (some ⟨gd, 0, none⟩), .int .i64 (Gm.spot ⟨a, b, c, d⟩ slot), .agg #[.int .i64 hv, .int .i64 slot, .int .i64 lay, .int .i64 seq, .int .i64 tail, .int .i64 now]] W' fun e w' => e = .returned (.int .i64 (Rg.begun fs n (Gm.spot ⟨a, b, c, d⟩ slot) (Hd.enc (Gm.spot ⟨a, b, c, d⟩ slot) ⟨hv, slot, lay, seq, tail, now⟩)).2) ∧ Dev w' gd cd md n (Rg.begun fs n (Gm.spot ⟨a, b, c, d⟩ slot) (Hd.enc (Gm.spot ⟨a, b, c, d⟩ slot) ⟨hv, slot, lay, seq, tail, now⟩)).1 ∧ Kept (devS gd cd md) W' w') := fun W' hb =>
        rgbegin_any hv slot lay seq tail now _ hval (by omega) (Lib.hid (hd.out.on hb)) (Lib.hid (ht.out.below hb hz)) (Nat.lt_of_lt_of_le hz hb.size) hwr
      have HFIN1 : Hid (∀ w', (Rg.begun fs n (Gm.spot ⟨a, b, c, d⟩ slot) (Hd.enc (Gm.spot ⟨a, b, c, d⟩ slot) ⟨hv, slot, lay, seq, tail, now⟩)).2 ≠ 0 → Dev w' gd cd md n (Rg.begun fs n (Gm.spot ⟨a, b, c, d⟩ slot) (Hd.enc (Gm.spot ⟨a, b, c, d⟩ slot) ⟨hv, slot, lay, seq, tail, now⟩)).1 → Kept (devS gd cd md) w w' → RgOpened W w gd cd md n fs a b c d hv slot lay seq tail now (.returned (.tuple #[.pointer none, .int .i64 (Rg.begun fs n (Gm.spot ⟨a, b, c, d⟩ slot) (Hd.enc (Gm.spot ⟨a, b, c, d⟩ slot) ⟨hv, slot, lay, seq, tail, now⟩)).2])) w') := fun w' h1 h2 h3 => .inr (.inl ⟨HM0.out, h1, rfl, h2, h3⟩)
      have HFIN2 : Hid (∀ w' r gp cl, (Rg.begun fs n (Gm.spot ⟨a, b, c, d⟩ slot) (Hd.enc (Gm.spot ⟨a, b, c, d⟩ slot) ⟨hv, slot, lay, seq, tail, now⟩)).2 = 0 → StG W w' cl r gd cd md n (Rg.begun fs n (Gm.spot ⟨a, b, c, d⟩ slot) (Hd.enc (Gm.spot ⟨a, b, c, d⟩ slot) ⟨hv, slot, lay, seq, tail, now⟩)).1 a b c d hv slot lay seq tail now gp [] 0 → Kept (devS gd cd md) w w' → (∀ k, cl k ≠ 0 → devS gd cd md k ∨ w.heap.size ≤ k) → RgOpened W w gd cd md n fs a b c d hv slot lay seq tail now (.returned (.tuple #[.pointer (some ⟨r, 0, none⟩), .int .i64 0])) w') := fun w' r gp cl h1 h2 h3 h4 => .inr (.inr ⟨HM0.out, h1, r, gp, cl, rfl, h2, h3, h4⟩)
      clear hm hm0 HM HM0
      generalize RgOpened W w gd cd md n fs a b c d hv slot lay seq tail now = Q at *
      generalize Rg.begun fs n (Gm.spot ⟨a, b, c, d⟩ slot) (Hd.enc (Gm.spot ⟨a, b, c, d⟩ slot) ⟨hv, slot, lay, seq, tail, now⟩) = R at *
      obtain ⟨f', xe⟩ := R
      simp only at HBG HFIN1 HFIN2
      generalize Gm.spot ⟨a, b, c, d⟩ slot = sp at *
      go_enter Tryz.func28, Tryz.ntmps28
      go_upto_region 1 with fail
      generalize (w.alloc (.cells #[.int .i64 a, .int .i64 b, .int .i64 c, .int .i64 d] 29)).alloc (.cells #[.int .i64 hv, .int .i64 slot, .int .i64 lay, .int .i64 seq, .int .i64 tail, .int .i64 now] 35) = w0 at *
      obtain ⟨⟨z0, z1, z2, z3⟩, y0, y1, y2, y3, y4, y5⟩ := HX0.out.cells
      go_wp2_with fail
      refine (HV.out _).mono ?_
      rintro e w1 ⟨rfl, hb1⟩
      have HX1 := Lib.hid (HX0.out.next hb1)
      have HB1 := Lib.hid (HB0.out.trans (hb1.mono HB0.out.size))
      clear hb1 z0 z1 z2 z3 y0 y1 y2 y3 y4 y5
      obtain ⟨⟨z0, z1, z2, z3⟩, y0, y1, y2, y3, y4, y5⟩ := HX1.out.cells
      go_wp2_with fail
      refine (HN.out _).mono ?_
      rintro e w2 ⟨p, rfl, hb2, hno, hyes⟩
      have HX2 := Lib.hid (HX1.out.next hb2)
      have HB2 := Lib.hid (HB1.out.trans (hb2.mono HB1.out.size))
      clear z0 z1 z2 z3 y0 y1 y2 y3 y4 y5
      obtain ⟨gp, rfl, hgp, hp2⟩ := hyes hok
      have HP2 := Lib.hid hp2
      have HS12 : Hid (w.heap.size ≤ w1.heap.size ∧ w.heap.size ≤ w2.heap.size) := ⟨HB1.out.size, HB2.out.size⟩
      have HSW : Hid (∀ W', Kept (devS gd cd md) w2 W' → OpBx w.heap.size (w.heap.size + 1) a b c d hv slot lay seq tail now W') := fun W' hk => HX2.out.kept hk (fun e => by
        have := hd.out.lt
        unfold devS at e
        omega) (fun e => by
        have := hd.out.lt
        unfold devS at e
        omega)
      clear hp2 hgp hb2 hno hyes HN HV
      go_wp2_with fail
      go_region_held3 (fun W' => (W'.cell? ⟨w.heap.size, 0, none⟩ = some (.int .i64 a) ∧ W'.cell? ⟨w.heap.size, 1, none⟩ = some (.int .i64 b) ∧ W'.cell? ⟨w.heap.size, 2, none⟩ = some (.int .i64 c) ∧ W'.cell? ⟨w.heap.size, 3, none⟩ = some (.int .i64 d)) ∧ W'.cell? ⟨w.heap.size + 1, 0, none⟩ = some (.int .i64 hv) ∧ W'.cell? ⟨w.heap.size + 1, 1, none⟩ = some (.int .i64 slot) ∧ W'.cell? ⟨w.heap.size + 1, 2, none⟩ = some (.int .i64 lay) ∧ W'.cell? ⟨w.heap.size + 1, 3, none⟩ = some (.int .i64 seq) ∧ W'.cell? ⟨w.heap.size + 1, 4, none⟩ = some (.int .i64 tail) ∧ W'.cell? ⟨w.heap.size + 1, 5, none⟩ = some (.int .i64 now))
        (first
          | (revert HK4; intro HK4; with_reducible exact (HSW.out _ HK4.out.2).cells)
          | (revert HK3; intro HK3; with_reducible exact (HSW.out _ (Kept.of_new HK3.out)).cells)
          | exact (HSW.out _ ((Kept.refl _ w2).drewN 1)).cells)
        (first
          | (go_at_call 21; refine (HFI.out _).mono ?_; rintro e w3 ⟨rfl, hb3⟩; have HK3 : Hid (Below w2.heap.size w2 w3) := below_step (Below.refl _ w2) hb3 (by rfl) (by rfl) (by rfl) (by rfl) (Nat.le_refl _); clear hb3)
          | (go_at_call 60; refine (HBG.out _ (HB2.out.trans (HK3.out.mono HB2.out.size))).mono ?_; rintro e w4 ⟨rfl, hd4, hk4⟩; have HK4 : Hid (Dev w4 gd cd md n f' ∧ Kept (devS gd cd md) w2 w4) := ⟨hd4, (Kept.of_new HK3.out).trans hk4⟩; clear hd4 hk4))
      all_goals
        have HKW : Hid (Kept (devS gd cd md) w w4) := (Kept.of_new HB2.out).trans HK4.out.2
        by_cases hx : xe = 0
        · subst hx
          obtain ⟨⟨z0, z1, z2, z3⟩, y0, y1, y2, y3, y4, y5⟩ := (HSW.out _ HK4.out.2).cells
          obtain ⟨cl, hst, hcl⟩ := stg_start (lay := lay) (hv := hv) (tail := tail) (now := now) hw.out hnew.out hd.out.lt HS12.out.1 HP2.out HK4.out.2 HK4.out.1 HKW.out HS12.out.2
          have HST := Lib.hid hst
          have HCL := Lib.hid hcl
          clear hst hcl
          unfold RgBox at HST
          go_wp2
          exact HFIN2.out _ _ _ _ trivial HST.out (HKW.out.trans (Kept.alloc _ _)) HCL.out
        · have f2 : (xe != 0) = true := by simpa using hx
          go_wp2
          exact HFIN1.out _ hx HK4.out.1 HKW.out
    · have hne := Pk.may_ne hok
      have HFIN : Hid (∀ w', Below w.heap.size w w' → RgOpened W w gd cd md n fs a b c d hv slot lay seq tail now (.returned (.tuple #[.pointer none, .int .i64 (Pk.may ⟨a, b, c, d⟩ slot seq)])) w') := fun w' hb => .inl ⟨by rw [HM.out]; exact hne, by rw [HM.out], hb⟩
      clear hm HM hw hnew hd
      generalize RgOpened W w gd cd md n fs a b c d hv slot lay seq tail now = Q at *
      generalize Pk.may ⟨a, b, c, d⟩ slot seq = er at *
      have f2 : (er != 0) = true := by simpa using hne
      go_enter Tryz.func28, Tryz.ntmps28
      go_upto_region 1 with fail
      generalize (w.alloc (.cells #[.int .i64 a, .int .i64 b, .int .i64 c, .int .i64 d] 29)).alloc (.cells #[.int .i64 hv, .int .i64 slot, .int .i64 lay, .int .i64 seq, .int .i64 tail, .int .i64 now] 35) = w0 at *
      obtain ⟨⟨z0, z1, z2, z3⟩, y0, y1, y2, y3, y4, y5⟩ := HX0.out.cells
      go_wp2_with fail
      refine (HV.out _).mono ?_
      rintro e w1 ⟨rfl, hb1⟩
      have HX1 := Lib.hid (HX0.out.next hb1)
      have HB1 := Lib.hid (HB0.out.trans (hb1.mono HB0.out.size))
      clear hb1 z0 z1 z2 z3 y0 y1 y2 y3 y4 y5
      obtain ⟨⟨z0, z1, z2, z3⟩, y0, y1, y2, y3, y4, y5⟩ := HX1.out.cells
      go_wp2_with fail
      refine (HN.out _).mono ?_
      rintro e w2 ⟨p, rfl, hb2, hno, hyes⟩
      have HX2 := Lib.hid (HX1.out.next hb2)
      have HB2 := Lib.hid (HB1.out.trans (hb2.mono HB1.out.size))
      clear z0 z1 z2 z3 y0 y1 y2 y3 y4 y5
      obtain rfl := hno hok
      clear hno hyes hb2
      go_wp2
      exact HFIN.out _ HB2.out
end
end Go.Proofs.YtgnbmmceffolmaaGreatDoor
end
section
set_option maxRecDepth 100000
namespace Go.Proofs.YtgnbmmceffolmaaGreatDoor
open Go.RowKit
namespace Rg
theorem begun_plain {fs : Flash} (h : Plain fs) {n : Nat} {x : Int} {b : List Nat} (hx : 0 ≤ x ∧ x < (n : Int)) (hb : b.length ≤ 64) : (begun fs n x b).2 = 0 ∧ Plain (begun fs n x b).1 ∧ (begun fs n x b).1.wr = fs.wr + 1 ∧ (begun fs n x b).1.old = fun _ => none := by
  obtain ⟨j, rfl⟩ := Int.eq_ofNat_of_zero_le hx.1
  obtain ⟨e1, e2⟩ := h.write (n := n) (j := j) (by omega) hb
  have hp := h.wrote j b
  obtain ⟨e3, e4⟩ := hp.barrier
  unfold begun syncFs syncErr
  simp only
  rw [e1, e2, if_pos rfl, if_pos rfl, e3, e4]
  exact ⟨rfl, ⟨hp.dead, hp.fused⟩, rfl, rfl⟩
theorem after_plain {l : Sb.L} {slot seq : Int} {fs : Flash} {n k : Nat} {st st' : List Nat} (h : Plain fs) (hf : Pk.Fit l slot seq st' k) (hn : Gm.spot l slot + l.rs ≤ (n : Int)) (hle : Pk.full st ≤ Pk.full st') :
    (after l slot seq fs n st st').2 = 0 ∧ Plain (after l slot seq fs n st st').1 ∧ (after l slot seq fs n st st').1.wr = fs.wr + (Pk.full st' - Pk.full st) := by
  have h1 := run_plain (N := n) (items l slot seq st' (Pk.full st) (Pk.full st' - Pk.full st)) fs h fun x hx => by
    unfold items at hx
    obtain ⟨i, hi, rfl⟩ := List.mem_map.1 hx
    have hi2 := List.mem_range'_1.1 hi
    have hi3 : i < Pk.full st' := by omega
    have hs := Pk.spot_le hf.ok
    have hc := hf.le
    have hcap : (Pk.cap l : Int) = (l.rs - 1) * 59 := by
      have := Gm.form_nums hf.ok.1.1
      unfold Pk.cap
      omega
    unfold Pk.full at hi3
    refine ⟨?_, ?_, Nat.le_of_eq (Pk.frame_length hf (by unfold Pk.full; omega))⟩
    · show 0 ≤ Pk.sec l slot i
      unfold Pk.sec; omega
    · show Pk.sec l slot i < _
      unfold Pk.sec; omega
  rw [items_len] at h1
  exact h1
theorem sync_plain {R : Flash × Int} (h0 : R.2 = 0) (h : Plain R.1) : syncErr R = 0 ∧ Plain (syncFs R) ∧ (syncFs R).wr = R.1.wr ∧ (syncFs R).old = fun _ => none := by
  obtain ⟨e3, e4⟩ := h.barrier
  unfold syncErr syncFs
  rw [if_pos h0, if_pos h0, e3, e4]
  exact ⟨rfl, ⟨h.dead, h.fused⟩, rfl, rfl⟩
end Rg
theorem rglayout_at (v g : Int) (b q : Nat) (hv : bits .and .i64 v 1 = (b : Int)) (hg : bits .and .i64 g 3 = (q : Int)) (hb : b ≤ 1) (hq : q ≤ 3) (w : World) :
    Calls Tryz.prog 12 #[.int .i64 v, .int .i64 g] w fun e w' => e = .returned (.agg #[.int .i64 3, .int .i64 (1 + (b : Int)), .int .i64 ((2 ^ (q + 1) : Nat) : Int), .int .i64 4]) ∧ Below w.heap.size w w' := by
  have HS0 := Lib.hid (sd_new w #[.int .i64 0, .int .i64 0, .int .i64 0, .int .i64 0] 29)
  have m1 : wrap64 (1 + (b : Int)) = 1 + (b : Int) := by unfold wrap64; omega
  rcases (show q = 0 ∨ q = 1 ∨ q = 2 ∨ q = 3 by omega) with rfl | rfl | rfl | rfl
  all_goals
    go_enter Tryz.func12, Tryz.ntmps12
    go_upto_region 1 with fail
    generalize w.alloc (.cells #[.int .i64 0, .int .i64 0, .int .i64 0, .int .i64 0] 29) = w0 at *
    obtain ⟨z0, z1, z2, z3⟩ := four_cells HS0.out.1
    obtain ⟨f0, f1, f2, f3⟩ := four_frozen HS0.out.1
    go_wp2
    (try simp only [Exit.inBlock, Exit.then])
    refine bodyPost_ret (results_cell_row rfl _ _ w.heap.size _ _ (0, 0) _ rfl (stored HS0.out.1) Tryz.underlying29 rfl (by kernel_rfl)) rfl ?_
    exact ⟨rfl, (sd_stored HS0.out (Nat.le_refl _)).2⟩
theorem rg_may : Rg.may ⟨3, 1, 4, 4⟩ ⟨1, 1, 3, 5, 5, 0⟩ = 0 := by decide
theorem rg_ok : Pk.ok ⟨3, 1, 4, 4⟩ 1 5 := by decide
theorem rg_err : Pk.err ⟨3, 1, 4, 4⟩ [] ⟨2, [107], [], 0⟩ = 0 := by decide
end Go.Proofs.YtgnbmmceffolmaaGreatDoor
end
