/-
  The texts RefOf, RefCrash, RefSame, RefParts, SpMath, DevWords of this proof, one behind the other.
-/
import Derived.Test.YtgnbmmceffolmaaGreatDoorFoldK
import Derived.Deep.RegionLaw
import Derived.Deep.RegionHeld3
import Derived.Test.YtgnbmmceffolmaaGreatDoorFoldJ
import Derived.Test.YtgnbmmceffolmaaGreatDoorFoldC
section
set_option maxRecDepth 100000
namespace Go.Proofs.YtgnbmmceffolmaaGreatDoor
open Go.RowKit Go.Maps
/-- W lies ahead of w: what was stands. -/
def Up (w W : World) : Prop := Below w.heap.size w W
theorem Up.refl (w : World) : Up w w := Below.refl _ w
theorem Up.drew {w W : World} (h : Up w W) : Up w W.drew := Below.drew h
theorem Up.alloc {w W : World} (h : Up w W) (o : Obj) : Up w (W.alloc o) := Below.alloc h h.size o
/-- What append leaves behind the cells that were appended. -/
def pads (W : World) (N : Nat) : List Value := (Builtin.zeroCells (Value.cells (.int .u8 0)) (grownCap W N 0 5 - N)).toList
theorem pads_len (W : World) (N : Nat) : N + (pads W N).length = grownCap W N 0 5 := by
  have h := grownCap_ge W N 0 5
  unfold pads
  rw [Array.length_toList, size_zeroCells]
  show N + (grownCap W N 0 5 - N) * 1 = _
  omega
def rowObj (W : World) (N : Nat) (l : List Nat) : Obj := .cells (vals l ++ pads W N).toArray 5 (0, 0)
theorem run_append_fresh {W : World} {ty : TypeId} {b N c : Nat} {l : List Nat} {rest : List Value} (hN : 0 < N) (hN2 : N ≤ 67108864) (hl : l.length = N) (hb : W.heap[b]? = some (.cells (vals l ++ rest).toArray 5 (0, 0))) :
    (Builtin.append_ #[27, 27] ty #[.slice none 0 0, .slice (some ⟨b, 0, none⟩) N c]).run Tryz.prog W = .ok (.slice (some ⟨W.heap.size, 0, none⟩) N (N + (pads W N).length)) (W.drew.alloc (rowObj W N l)) := by
  obtain ⟨i0, hi0, hz0, hz1, hz2⟩ := info_parts info_u8
  have h := run_append_nil (P := Tryz.prog) W 27 ty 5 i0 (.int .u8 0) Tryz.underlying27 hi0 hz0 ⟨b, 0, none⟩ N c (vals l) (by rw [vals_length, hl, hz1]; omega) (fun j u hu => by
    have hj : j < (vals l).length := (List.getElem?_eq_some_iff.1 hu).1
    rw [add_flat, Nat.zero_add, cell_of_row W b j _ _ _ hb, List.getElem?_toArray, List.getElem?_append_left hj]
    exact hu) hN (by omega) (by rw [hz2]; omega)
  rw [h, pads_len]
  congr 3
  unfold pads
  simp
theorem step_append_fresh {ops : Array Oper} {o : Oper} {a : Act} {W : World} {K : Act → World → Prop} {Q : Exit → Act → World → Prop} {E : Prop}
    {b N c : Nat} {l : List Nat} {rest : List Value} (hg : o.guard = none) (x : Operand) (hop : o.op = Op.call { callee := Callee.builtin Builtin.append, args := #[.const (.slice none 0 0), x], argTypes := #[27, 27] })
    (hx : a.eval x = .slice (some ⟨b, 0, none⟩) N c) (hN : 0 < N) (hN2 : N ≤ 67108864) (hl : l.length = N) {w : World} (hb : w.heap[b]? = some (.cells (vals l ++ rest).toArray 5 (0, 0))) (hup : Up w W)
    (hK : K (a.put o.dst (.slice (some ⟨W.heap.size, 0, none⟩) N (N + (pads W N).length))) (W.drew.alloc (rowObj W N l))) :
    if Region.wanted o (yielded ops a.tmps) = true then Oper.wp Tryz.prog o a W K Q else E := by
  have hw : Region.wanted o (yielded ops a.tmps) = true := by simp [Region.wanted, hg]
  rw [if_pos hw]
  have hb' : W.heap[b]? = some (.cells (vals l ++ rest).toArray 5 (0, 0)) := (hup.block b (Array.getElem?_eq_some_iff.1 hb).1).trans hb
  have hrun := run_append_fresh (ty := o.type) (c := c) hN hN2 hl hb'
  have hs : a.eval (.const (.slice none 0 0)) = .slice none 0 0 := rfl
  unfold Oper.wp
  simp [execOp, hop, resolve, invoke, builtin, hs, hx, hrun, Result.andThen]
  exact hK
def rowB (n : Nat) : Obj := .cells (madeCells (Value.cells (.bool false)) (n * 1)) 4 (0, 0)
theorem run_make_bools (n : Nat) (hn : n ≤ 1048576) (W : World) : (Instr.makeSlice 23 (.int .i64 (n : Int)) (.int .i64 (n : Int))).run Tryz.prog W = .ok (.slice (some ⟨W.heap.size, 0, none⟩) n n) (W.alloc (rowB n)) := by
  obtain ⟨i0, hi0, hz0, hz1, hz2⟩ := info_parts info_bool
  have h := run_make (P := Tryz.prog) W 23 4 i0 (.bool false) Tryz.underlying23 hi0 hz0 .i64 .i64 (n : Int) (n : Int) (by omega) (by omega) (by rw [hz2]; omega) (by omega)
  rw [hz1] at h
  exact h
theorem rowB_brow (n : Nat) : rowB n = .cells (bvals (dirtL n (fun _ => none))).toArray 4 (0, 0) := by
  have e : dirtL n (fun _ => none) = List.replicate n false := by
    apply List.ext_getElem
    · simp [dirtL]
    · intro k h1 h2; simp [dirtL]
  unfold rowB
  rw [e, ← made_bvals]
theorem heap_1of4 (w : World) (A B C D : Obj) : (((((w.alloc A).alloc B).alloc C).alloc D).drew.drew.drew).heap[w.heap.size]? = some A :=
  (heap_alloc_old _ _ (by simp; omega)).trans ((heap_alloc_old _ _ (by simp; omega)).trans ((heap_alloc_old _ _ (by simp)).trans (heap_alloc_new w A)))
theorem heap_2of4 (w : World) (A B C D : Obj) : (((((w.alloc A).alloc B).alloc C).alloc D).drew.drew.drew).heap[w.heap.size + 1]? = some B :=
  (heap_alloc_old _ _ (by simp)).trans ((heap_alloc_old _ _ (by simp)).trans (by rw [show w.heap.size + 1 = (w.alloc A).heap.size by simp]; exact heap_alloc_new _ B))
theorem heap_3of4 (w : World) (A B C D : Obj) : (((((w.alloc A).alloc B).alloc C).alloc D).drew.drew.drew).heap[w.heap.size + 1 + 1]? = some C :=
  (heap_alloc_old _ _ (by simp)).trans (by rw [show w.heap.size + 1 + 1 = ((w.alloc A).alloc B).heap.size by simp]; exact heap_alloc_new _ C)
theorem heap_4of4 (w : World) (A B C D : Obj) : (((((w.alloc A).alloc B).alloc C).alloc D).drew.drew.drew).heap[w.heap.size + 1 + 1 + 1]? = some D := by
  rw [show w.heap.size + 1 + 1 + 1 = (((w.alloc A).alloc B).alloc C).heap.size by simp]; exact heap_alloc_new _ D
def RMade (w : World) (n : Nat) (l : List Nat) (e : Ending) (w' : World) : Prop :=
  ∃ g o v t, e = .returned (.pointer (some ⟨g, 0, none⟩)) ∧ RDev w' g o v t n 0 (Flash.fresh l) ∧ w.heap.size ≤ g ∧ w.heap.size ≤ o ∧ w.heap.size ≤ v ∧ w.heap.size ≤ t ∧ Below w.heap.size w w'
theorem oldImg_fresh {n : Nat} {l : List Nat} (hl : l.length = n * 64) : oldImg n (Flash.fresh l) = l := crashed_none hl [] []
theorem rmade_end {w W P1 P2 : World} {n g o v t : Nat} {l : List Nat} (hl : l.length = n * 64) (hn2 : n ≤ 1048576)
    (hg : W.heap[g]? = some (.cells #[.slice (some ⟨o, 0, none⟩) (n * 64) (n * 64 + (pads P1 (n * 64)).length), .slice (some ⟨v, 0, none⟩) (n * 64) (n * 64 + (pads P2 (n * 64)).length), .slice (some ⟨t, 0, none⟩) n n, .bool false, .int .i64 0, .bool false, .int .i64 0] 59 (0, 0)))
    (ho : W.heap[o]? = some (rowObj P1 (n * 64) l)) (hv : W.heap[v]? = some (rowObj P2 (n * 64) l)) (ht : W.heap[t]? = some (rowB n)) (hb : Below w.heap.size w W)
    (hne : g ≠ o ∧ g ≠ v ∧ g ≠ t ∧ o ≠ v ∧ o ≠ t ∧ v ≠ t) (hge : w.heap.size ≤ g ∧ w.heap.size ≤ o ∧ w.heap.size ≤ v ∧ w.heap.size ≤ t) : RMade w n l (.returned (.pointer (some ⟨g, 0, none⟩))) W := by
  have hcap : ∀ P : World, n * 64 + (pads P (n * 64)).length ≤ 9223372036854775807 := fun P => by
    rw [pads_len]
    have h := grownCap_le_maxLen P (n * 64) 0 5 (by unfold maxLen; omega)
    exact Nat.le_trans h (by unfold maxLen; omega)
  refine ⟨g, o, v, t, rfl, ⟨_, _, 0, hg, ?_, hv, ?_, fun h => (by cases h), by omega, by omega, hcap P1, hcap P2, hne⟩, hge.1, hge.2.1, hge.2.2.1, hge.2.2.2, hb⟩
  · rw [oldImg_fresh hl]; exact ho
  · unfold BRow
    rw [ht, rowB_brow]; rfl
set_option maxHeartbeats 1000000 in
theorem of_any (b n c : Nat) (l : List Nat) (rest : List Value) (w : World) (hn1 : 1 ≤ n) (hn2 : n ≤ 1048576) (hl : Hid (l.length = n * 64)) (hb : Hid (w.heap[b]? = some (.cells (vals l ++ rest).toArray 5 (0, 0)))) :
    Calls Tryz.prog 39 #[.slice (some ⟨b, 0, none⟩) (n * 64) c] w (RMade w n l) := by
  have hmk : ∀ W, (Instr.makeSlice 23 (.int .i64 (IntKind.i64.wrap (n : Int))) (.int .i64 (IntKind.i64.wrap (n : Int)))).run Tryz.prog W = .ok (.slice (some ⟨W.heap.size, 0, none⟩) n n) (W.alloc (rowB n)) := fun W => by
    rw [show IntKind.i64.wrap (n : Int) = (n : Int) by rw [IntKind.wrap_i64]; omega]
    exact run_make_bools n hn2 W
  have HU : Hid (Up w w) := Up.refl w
  go_enter Tryz.func39, Tryz.ntmps39
  go_wp2_with fail
  go_region_law ((first
    | refine step_append_fresh rfl (.tmp 3) rfl (by rfl) (by omega) (by omega) hl.out hb.out (by first | exact HU.out | (repeat (first | exact HU.out | apply Up.drew | apply Up.alloc))) ?_
    | refine step_append_fresh rfl (.tmp 5) rfl (by rfl) (by omega) (by omega) hl.out hb.out (by first | exact HU.out | (repeat (first | exact HU.out | apply Up.drew | apply Up.alloc))) ?_))
  all_goals go_wp2
  all_goals go_ret
  all_goals (first
    | refine rmade_end (g := w.heap.size + 1 + 1 + 1) (o := w.heap.size) (v := w.heap.size + 1) (t := w.heap.size + 1 + 1) hl.out hn2 (heap_4of4 _ _ _ _ _) (heap_1of4 _ _ _ _ _) (heap_2of4 _ _ _ _ _) (heap_3of4 _ _ _ _ _) (by repeat (first | exact Up.refl w | apply Up.drew | apply Up.alloc)) (by omega) (by omega)
    | refine rmade_end (g := w.heap.size + 1 + 1 + 1) (o := w.heap.size) (v := w.heap.size + 1 + 1) (t := w.heap.size + 1) hl.out hn2 (heap_4of4 _ _ _ _ _) (heap_1of4 _ _ _ _ _) (heap_3of4 _ _ _ _ _) (heap_2of4 _ _ _ _ _) (by repeat (first | exact Up.refl w | apply Up.drew | apply Up.alloc)) (by omega) (by omega)
    | refine rmade_end (g := w.heap.size + 1 + 1 + 1) (o := w.heap.size + 1) (v := w.heap.size + 1 + 1) (t := w.heap.size) hl.out hn2 (heap_4of4 _ _ _ _ _) (heap_2of4 _ _ _ _ _) (heap_3of4 _ _ _ _ _) (heap_1of4 _ _ _ _ _) (by repeat (first | exact Up.refl w | apply Up.drew | apply Up.alloc)) (by omega) (by omega))
set_option maxHeartbeats 400000 in
theorem blank_any (n : Nat) (w : World) (hn1 : 1 ≤ n) (hn2 : n ≤ 1048576) :
    Calls Tryz.prog 13 #[.int .i64 (n : Int)] w (RMade w n (List.replicate (n * 64) 0)) := by
  obtain ⟨i0, hi0, hz0, hz1, hz2⟩ := info_parts info_u8
  have I0 := Lib.hid (And.intro hi0 (And.intro hz0 (And.intro hz1 hz2))); clear hi0 hz0 hz1 hz2
  have B0 : Hid (i0.bytes * (n * 64) ≤ 281474976710656 ∧ n * 64 ≤ maxLen) := by rw [I0.out.2.2.2]; exact ⟨by omega, by unfold maxLen; omega⟩
  have HL : Hid ((List.replicate (n * 64) 0).length = n * 64) := List.length_replicate
  go_enter Tryz.func13, Tryz.ntmps13
  go_wp2_with (first
    | (at_make; refine wpList_make_full w rfl _ _ 27 rfl w.heap.size 5 i0 (.int .u8 0) 1 Tryz.underlying27 I0.out.1 I0.out.2.1 I0.out.2.2.1 .i64 .i64 _ _ (n * 64) rfl rfl (by simp) (by simp) B0.out.1 B0.out.2 (Nat.le_refl _) ?_; intro w1 hown hg)
    | (go_at_call 39; have HC : Hid (w1.heap[w.heap.size]? = some (.cells (vals (List.replicate (n * 64) 0) ++ []).toArray 5 (0, 0))) := by
         rw [vals_zero] at hown
         obtain ⟨c, rest, hv, hb, hc, hl, hm⟩ := own_block hown (by omega)
         injection hv with e1 e2 e3
         injection e1 with e1
         injection e1 with e1
         subst e1
         obtain rfl : rest = [] := List.eq_nil_of_length_eq_zero (by omega)
         exact hc
       refine (of_any w.heap.size n (n * 64) (List.replicate (n * 64) 0) [] w1 hn1 hn2 HL HC).mono ?_; rintro e w2 ⟨g, o, v, t, rfl, hd, hg1, ho1, hv1, ht1, hb2⟩))
  go_ret
  have HB : Below w.heap.size w w1 := (Below.refl _ w).grown hg (Nat.le_refl _) (fun k e => by cases e)
  have hs := HB.size
  exact ⟨g, o, v, t, rfl, hd, by omega, by omega, by omega, by omega, HB.trans (hb2.mono hs)⟩
end Go.Proofs.YtgnbmmceffolmaaGreatDoor
end
section
set_option maxRecDepth 100000
namespace Go.Proofs.YtgnbmmceffolmaaGreatDoor
open Go.RowKit Go.Maps
/-- The bytes when the sectors below i have gone through the crash. -/
def half (n : Nat) (s : Flash) (keep : List Bool) (T : List (Int × Int)) (i : Nat) : List Nat :=
  (List.range (n * 64)).map fun p => if p / 64 < i then crashByte s.cur s.old keep T p else crashByte s.cur s.old [] [] p
section
variable {n i : Nat} {s : Flash} {keep : List Bool} {T : List (Int × Int)}
end
/-- What holds at the head of the loop's rounds: W is the world behind Of. -/
structure CAt (w W wr : World) (o' v' n : Nat) (s : Flash) (keep : List Bool) (T : List (Int × Int)) (i : Nat) (ro rv : List Value) : Prop where
  olds : VRow wr o' (half n s keep T i) ro
  news : VRow wr v' (half n s keep T i) rv
  kept : Kept (fun k => k = o' ∨ k = v') W wr
  below : Below w.heap.size w wr
theorem CAt.next {w W wr wx : World} {o' v' n : Nat} {s : Flash} {keep : List Bool} {T : List (Int × Int)} {i : Nat} {ro rv : List Value} (h : CAt w W wr o' v' n s keep T i ro rv) (hb : Below wr.heap.size wr wx) : CAt w W wx o' v' n s keep T i ro rv :=
  ⟨(hb.block o' (Array.getElem?_eq_some_iff.1 h.olds).1).trans h.olds, (hb.block v' (Array.getElem?_eq_some_iff.1 h.news).1).trans h.news, h.kept.trans (Kept.of_new hb), h.below.trans (hb.mono h.below.size)⟩
theorem CAt.drew {w W wr : World} {o' v' n : Nat} {s : Flash} {keep : List Bool} {T : List (Int × Int)} {i : Nat} {ro rv : List Value} (h : CAt w W wr o' v' n s keep T i ro rv) : CAt w W wr.drew o' v' n s keep T i ro rv :=
  ⟨h.olds, h.news, h.kept.drewN 1, h.below.drew⟩
end Go.Proofs.YtgnbmmceffolmaaGreatDoor
end
section
set_option maxRecDepth 100000
namespace Go.Proofs.YtgnbmmceffolmaaGreatDoor
open Go.RowKit Go.Maps
theorem below_step {B : Nat} {a b b' c : World} (h : Below B a b) (k : Below b'.heap.size b' c) (e1 : b'.heap = b.heap) (e2 : b'.os = b.os) (e3 : b'.tape = b.tape) (e4 : b'.output = b.output) (hB : B ≤ b.heap.size) : Below B a c :=
  ⟨k.os.trans (e2.trans h.os), k.tape.trans (e3.trans h.tape), k.output.trans (e4.trans h.output), Nat.le_trans h.size (by have := k.size; rw [e1] at this; exact this), fun i hi => (k.block i (by rw [e1]; omega)).trans (by rw [e1]; exact h.block i hi)⟩
end Go.Proofs.YtgnbmmceffolmaaGreatDoor
end
section
set_option maxRecDepth 100000
namespace Go.Proofs.YtgnbmmceffolmaaGreatDoor
open Go.RowKit Go.Maps
section
variable {w : World} {n : Nat} {s : Flash}
end
theorem write_wr (s : Flash) (n : Nat) (i : Int) (b : List Nat) : (s.write n i b).wr ≤ s.wr + 1 := by
  unfold Flash.write
  split
  · omega
  · split
    · show s.burnt.wr + 1 ≤ _
      rw [(burnt_cur s).2.2]; exact Nat.le_refl _
    · rw [(burnt_cur s).2.2]; omega
/-- Both devices, at the head of the script's rounds. -/
structure ScriptAt (w wr : World) (g c m r o v t n i : Nat) (s : Flash) : Prop where
  dev : Dev wr g c m n s
  ref : RDev wr r o v t n i s
  wr_ : s.wr ≤ i
  below : Below w.heap.size w wr
  ge : ∀ k, devS g c m k ∨ rS r o v t k → w.heap.size ≤ k
  apart : ∀ k, devS g c m k → ¬ rS r o v t k
section
variable {w wr : World} {g c m r o v t n i : Nat} {s : Flash}
theorem ScriptAt.next {wx : World} (h : ScriptAt w wr g c m r o v t n i s) (hb : Below wr.heap.size wr wx) : ScriptAt w wx g c m r o v t n i s :=
  ⟨h.dev.next hb, h.ref.next hb, h.wr_, h.below.trans (hb.mono h.below.size), h.ge, h.apart⟩
theorem ScriptAt.drew (h : ScriptAt w wr g c m r o v t n i s) : ScriptAt w wr.drew g c m r o v t n i s :=
  ⟨h.dev, h.ref, h.wr_, h.below.drew, h.ge, h.apart⟩
theorem ScriptAt.more (h : ScriptAt w wr g c m r o v t n i s) : ScriptAt w wr g c m r o v t n (i + 1) s :=
  ⟨h.dev, h.ref.more (by omega), by have := h.wr_; omega, h.below, h.ge, h.apart⟩
end
end Go.Proofs.YtgnbmmceffolmaaGreatDoor
end
section
namespace Go.Proofs.YtgnbmmceffolmaaGreatDoor
namespace Sp
open Sb
end Sp
theorem sp_ext {a b : List Nat} {k : Nat} (ha : a.length = k) (hb : b.length = k) (h : ∀ p, p < k → a.getD p 0 = b.getD p 0) : a = b :=
  getD_ext (ha.trans hb.symm) (fun j hj => h j (by omega))
theorem pad_whole {b : List Nat} (h : b.length = 64) : pad b = b := by unfold pad; rw [h]; simp
theorem sec_put {l p : List Nat} {n i j : Nat} (hl : l.length = n * 64) (hi : i < n) (hj : j < n) (hp : p.length = 64) : sec (putSec l i p) j = if j = i then p else sec l j := by
  have h64 : (if j = i then p else sec l j).length = 64 := by
    split
    · exact hp
    · exact sec_len hl hj
  refine sp_ext (k := 64) (sec_len (putSec_len hl hi hp) hj) h64 fun k hk => ?_
  rw [sec_get hk, putSec_get hl hi hp, show (j * 64 + k) / 64 = j by omega, show (j * 64 + k) % 64 = k by omega]
  by_cases h : j = i
  · rw [if_pos h, if_pos h]
  · rw [if_neg h, if_neg h, sec_get hk]
section
variable {S : Sb.S} {n : Nat} {l : List Nat} {wr : Nat}
end
end Go.Proofs.YtgnbmmceffolmaaGreatDoor
end
section
set_option maxRecDepth 100000
namespace Go.Proofs.YtgnbmmceffolmaaGreatDoor
open Go.RowKit
/-- A device's blocks: behind what was there at first, apart from a box. -/
def DevNew (w : World) (g c m : Nat) : Prop := w.heap.size ≤ g ∧ w.heap.size ≤ c ∧ w.heap.size ≤ m
/-- A device's call: all that was there before the device stays. -/
theorem dev_below {w W W' : World} {g c m : Nat} (h : Below w.heap.size w W) (hn : DevNew w g c m) (hk : Kept (devS g c m) W W') : Below w.heap.size w W' :=
  h.trans (hk.below h.size (fun k hk => by unfold devS at hk; unfold DevNew at hn; omega))
theorem Dev.on {W W' : World} {g c m n : Nat} {fs : Flash} (h : Dev W g c m n fs) (hb : Below W.heap.size W W') : Dev W' g c m n fs := h.below hb h.lt.1 h.lt.2.1 h.lt.2.2
/-- What New leaves. -/
def NewDev (w : World) (n : Nat) (r : Ending) (w' : World) : Prop := ∃ g c m, r = .returned (.pointer (some ⟨g, 0, none⟩)) ∧ Dev w' g c m n (Flash.fresh (List.replicate (n * 64) 0)) ∧ DevNew w g c m ∧ Below w.heap.size w w'
theorem new_dev (n : Nat) (ni : Int) (hni : ni = (n : Int)) (w : World) (h1 : 1 ≤ n) (h2 : n ≤ 1048576) : Calls Tryz.prog 27 #[.int .i64 ni] w (NewDev w n) :=
  (new_yes n ni hni w h1 h2).mono fun _ _ ⟨g, c, m, e, hd, q1, q2, q3, hb⟩ => ⟨g, c, m, e, hd, ⟨q1, q2, q3⟩, hb⟩
end Go.Proofs.YtgnbmmceffolmaaGreatDoor
end
