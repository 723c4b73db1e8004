/-
  The texts RefOf, RefCrash, RefSame, RefParts, SpMath, DevWords of this proof, one behind the other.
-/
import Derived.Test.YtledfdpabmlecaaGreatDoorFoldK
import Derived.Deep.RegionLaw
import Derived.Deep.RegionHeld3
import Derived.Test.YtledfdpabmlecaaGreatDoorFoldJ
import Derived.Test.YtledfdpabmlecaaGreatDoorFoldC
section
set_option maxRecDepth 100000
namespace Go.Proofs.YtledfdpabmlecaaGreatDoor
open Go.RowKit Go.Maps
/-- W lies ahead of w: what was stands. -/
def Up (w W : World) : Prop := Below w.heap.size w W
theorem Up.refl (w : World) : Up w w := Below.refl _ w
theorem Up.drew {w W : World} (h : Up w W) : Up w W.drew := Below.drew h
theorem Up.alloc {w W : World} (h : Up w W) (o : Obj) : Up w (W.alloc o) := Below.alloc h h.size o
/-- What append leaves behind the cells that were appended. -/
def pads (W : World) (N : Nat) : List Value := (Builtin.zeroCells (Value.cells (.int .u8 0)) (grownCap W N 0 5 - N)).toList
theorem pads_len (W : World) (N : Nat) : N + (pads W N).length = grownCap W N 0 5 := by
  have h := grownCap_ge W N 0 5
  unfold pads
  rw [Array.length_toList, size_zeroCells]
  show N + (grownCap W N 0 5 - N) * 1 = _
  omega
def rowObj (W : World) (N : Nat) (l : List Nat) : Obj := .cells (vals l ++ pads W N).toArray 5 (0, 0)
theorem run_append_fresh {W : World} {ty : TypeId} {b N c : Nat} {l : List Nat} {rest : List Value} (hN : 0 < N) (hN2 : N ≤ 67108864) (hl : l.length = N) (hb : W.heap[b]? = some (.cells (vals l ++ rest).toArray 5 (0, 0))) :
    (Builtin.append_ #[27, 27] ty #[.slice none 0 0, .slice (some ⟨b, 0, none⟩) N c]).run Tryz.prog W = .ok (.slice (some ⟨W.heap.size, 0, none⟩) N (N + (pads W N).length)) (W.drew.alloc (rowObj W N l)) := by
  obtain ⟨i0, hi0, hz0, hz1, hz2⟩ := info_parts info_u8
  have h := run_append_nil (P := Tryz.prog) W 27 ty 5 i0 (.int .u8 0) Tryz.underlying27 hi0 hz0 ⟨b, 0, none⟩ N c (vals l) (by rw [vals_length, hl, hz1]; omega) (fun j u hu => by
    have hj : j < (vals l).length := (List.getElem?_eq_some_iff.1 hu).1
    rw [add_flat, Nat.zero_add, cell_of_row W b j _ _ _ hb, List.getElem?_toArray, List.getElem?_append_left hj]
    exact hu) hN (by omega) (by rw [hz2]; omega)
  rw [h, pads_len]
  congr 3
  unfold pads
  simp
theorem step_append_fresh {ops : Array Oper} {o : Oper} {a : Act} {W : World} {K : Act → World → Prop} {Q : Exit → Act → World → Prop} {E : Prop}
    {b N c : Nat} {l : List Nat} {rest : List Value} (hg : o.guard = none) (x : Operand) (hop : o.op = Op.call { callee := Callee.builtin Builtin.append, args := #[.const (.slice none 0 0), x], argTypes := #[27, 27] })
    (hx : a.eval x = .slice (some ⟨b, 0, none⟩) N c) (hN : 0 < N) (hN2 : N ≤ 67108864) (hl : l.length = N) {w : World} (hb : w.heap[b]? = some (.cells (vals l ++ rest).toArray 5 (0, 0))) (hup : Up w W)
    (hK : K (a.put o.dst (.slice (some ⟨W.heap.size, 0, none⟩) N (N + (pads W N).length))) (W.drew.alloc (rowObj W N l))) :
    if Region.wanted o (yielded ops a.tmps) = true then Oper.wp Tryz.prog o a W K Q else E := by
  have hw : Region.wanted o (yielded ops a.tmps) = true := by simp [Region.wanted, hg]
  rw [if_pos hw]
  have hb' : W.heap[b]? = some (.cells (vals l ++ rest).toArray 5 (0, 0)) := (hup.block b (Array.getElem?_eq_some_iff.1 hb).1).trans hb
  have hrun := run_append_fresh (ty := o.type) (c := c) hN hN2 hl hb'
  have hs : a.eval (.const (.slice none 0 0)) = .slice none 0 0 := rfl
  unfold Oper.wp
  simp [execOp, hop, resolve, invoke, builtin, hs, hx, hrun, Result.andThen]
  exact hK
def rowB (n : Nat) : Obj := .cells (madeCells (Value.cells (.bool false)) (n * 1)) 4 (0, 0)
theorem run_make_bools (n : Nat) (hn : n ≤ 1048576) (W : World) : (Instr.makeSlice 23 (.int .i64 (n : Int)) (.int .i64 (n : Int))).run Tryz.prog W = .ok (.slice (some ⟨W.heap.size, 0, none⟩) n n) (W.alloc (rowB n)) := by
  obtain ⟨i0, hi0, hz0, hz1, hz2⟩ := info_parts info_bool
  have h := run_make (P := Tryz.prog) W 23 4 i0 (.bool false) Tryz.underlying23 hi0 hz0 .i64 .i64 (n : Int) (n : Int) (by omega) (by omega) (by rw [hz2]; omega) (by omega)
  rw [hz1] at h
  exact h
theorem rowB_brow (n : Nat) : rowB n = .cells (bvals (dirtL n (fun _ => none))).toArray 4 (0, 0) := by
  have e : dirtL n (fun _ => none) = List.replicate n false := by
    apply List.ext_getElem
    · simp [dirtL]
    · intro k h1 h2; simp [dirtL]
  unfold rowB
  rw [e, ← made_bvals]
theorem heap_1of4 (w : World) (A B C D : Obj) : (((((w.alloc A).alloc B).alloc C).alloc D).drew.drew.drew).heap[w.heap.size]? = some A :=
  (heap_alloc_old _ _ (by simp; omega)).trans ((heap_alloc_old _ _ (by simp; omega)).trans ((heap_alloc_old _ _ (by simp)).trans (heap_alloc_new w A)))
theorem heap_2of4 (w : World) (A B C D : Obj) : (((((w.alloc A).alloc B).alloc C).alloc D).drew.drew.drew).heap[w.heap.size + 1]? = some B :=
  (heap_alloc_old _ _ (by simp)).trans ((heap_alloc_old _ _ (by simp)).trans (by rw [show w.heap.size + 1 = (w.alloc A).heap.size by simp]; exact heap_alloc_new _ B))
theorem heap_3of4 (w : World) (A B C D : Obj) : (((((w.alloc A).alloc B).alloc C).alloc D).drew.drew.drew).heap[w.heap.size + 1 + 1]? = some C :=
  (heap_alloc_old _ _ (by simp)).trans (by rw [show w.heap.size + 1 + 1 = ((w.alloc A).alloc B).heap.size by simp]; exact heap_alloc_new _ C)
theorem heap_4of4 (w : World) (A B C D : Obj) : (((((w.alloc A).alloc B).alloc C).alloc D).drew.drew.drew).heap[w.heap.size + 1 + 1 + 1]? = some D := by
  rw [show w.heap.size + 1 + 1 + 1 = (((w.alloc A).alloc B).alloc C).heap.size by simp]; exact heap_alloc_new _ D
def RMade (w : World) (n : Nat) (l : List Nat) (e : Ending) (w' : World) : Prop :=
  ∃ g o v t, e = .returned (.pointer (some ⟨g, 0, none⟩)) ∧ RDev w' g o v t n 0 (Flash.fresh l) ∧ w.heap.size ≤ g ∧ w.heap.size ≤ o ∧ w.heap.size ≤ v ∧ w.heap.size ≤ t ∧ Below w.heap.size w w'
theorem oldImg_fresh {n : Nat} {l : List Nat} (hl : l.length = n * 64) : oldImg n (Flash.fresh l) = l := crashed_none hl [] []
theorem rmade_end {w W P1 P2 : World} {n g o v t : Nat} {l : List Nat} (hl : l.length = n * 64) (hn2 : n ≤ 1048576)
    (hg : W.heap[g]? = some (.cells #[.slice (some ⟨o, 0, none⟩) (n * 64) (n * 64 + (pads P1 (n * 64)).length), .slice (some ⟨v, 0, none⟩) (n * 64) (n * 64 + (pads P2 (n * 64)).length), .slice (some ⟨t, 0, none⟩) n n, .bool false, .int .i64 0, .bool false, .int .i64 0] 68 (0, 0)))
    (ho : W.heap[o]? = some (rowObj P1 (n * 64) l)) (hv : W.heap[v]? = some (rowObj P2 (n * 64) l)) (ht : W.heap[t]? = some (rowB n)) (hb : Below w.heap.size w W)
    (hne : g ≠ o ∧ g ≠ v ∧ g ≠ t ∧ o ≠ v ∧ o ≠ t ∧ v ≠ t) (hge : w.heap.size ≤ g ∧ w.heap.size ≤ o ∧ w.heap.size ≤ v ∧ w.heap.size ≤ t) : RMade w n l (.returned (.pointer (some ⟨g, 0, none⟩))) W := by
  have hcap : ∀ P : World, n * 64 + (pads P (n * 64)).length ≤ 9223372036854775807 := fun P => by
    rw [pads_len]
    have h := grownCap_le_maxLen P (n * 64) 0 5 (by unfold maxLen; omega)
    exact Nat.le_trans h (by unfold maxLen; omega)
  refine ⟨g, o, v, t, rfl, ⟨_, _, 0, hg, ?_, hv, ?_, fun h => (by cases h), by omega, by omega, hcap P1, hcap P2, hne⟩, hge.1, hge.2.1, hge.2.2.1, hge.2.2.2, hb⟩
  · rw [oldImg_fresh hl]; exact ho
  · unfold BRow
    rw [ht, rowB_brow]; rfl
set_option maxHeartbeats 1000000 in
theorem of_any (b n c : Nat) (l : List Nat) (rest : List Value) (w : World) (hn1 : 1 ≤ n) (hn2 : n ≤ 1048576) (hl : Hid (l.length = n * 64)) (hb : Hid (w.heap[b]? = some (.cells (vals l ++ rest).toArray 5 (0, 0)))) :
    Calls Tryz.prog 53 #[.slice (some ⟨b, 0, none⟩) (n * 64) c] w (RMade w n l) := by
  have hmk : ∀ W, (Instr.makeSlice 23 (.int .i64 (IntKind.i64.wrap (n : Int))) (.int .i64 (IntKind.i64.wrap (n : Int)))).run Tryz.prog W = .ok (.slice (some ⟨W.heap.size, 0, none⟩) n n) (W.alloc (rowB n)) := fun W => by
    rw [show IntKind.i64.wrap (n : Int) = (n : Int) by rw [IntKind.wrap_i64]; omega]
    exact run_make_bools n hn2 W
  have HU : Hid (Up w w) := Up.refl w
  go_enter Tryz.func53, Tryz.ntmps53
  go_wp2_with fail
  go_region_law ((first
    | refine step_append_fresh rfl (.tmp 3) rfl (by rfl) (by omega) (by omega) hl.out hb.out (by first | exact HU.out | (repeat (first | exact HU.out | apply Up.drew | apply Up.alloc))) ?_
    | refine step_append_fresh rfl (.tmp 5) rfl (by rfl) (by omega) (by omega) hl.out hb.out (by first | exact HU.out | (repeat (first | exact HU.out | apply Up.drew | apply Up.alloc))) ?_))
  all_goals go_wp2
  all_goals go_ret
  all_goals (first
    | refine rmade_end (g := w.heap.size + 1 + 1 + 1) (o := w.heap.size) (v := w.heap.size + 1) (t := w.heap.size + 1 + 1) hl.out hn2 (heap_4of4 _ _ _ _ _) (heap_1of4 _ _ _ _ _) (heap_2of4 _ _ _ _ _) (heap_3of4 _ _ _ _ _) (by repeat (first | exact Up.refl w | apply Up.drew | apply Up.alloc)) (by omega) (by omega)
    | refine rmade_end (g := w.heap.size + 1 + 1 + 1) (o := w.heap.size) (v := w.heap.size + 1 + 1) (t := w.heap.size + 1) hl.out hn2 (heap_4of4 _ _ _ _ _) (heap_1of4 _ _ _ _ _) (heap_3of4 _ _ _ _ _) (heap_2of4 _ _ _ _ _) (by repeat (first | exact Up.refl w | apply Up.drew | apply Up.alloc)) (by omega) (by omega)
    | refine rmade_end (g := w.heap.size + 1 + 1 + 1) (o := w.heap.size + 1) (v := w.heap.size + 1 + 1) (t := w.heap.size) hl.out hn2 (heap_4of4 _ _ _ _ _) (heap_2of4 _ _ _ _ _) (heap_3of4 _ _ _ _ _) (heap_1of4 _ _ _ _ _) (by repeat (first | exact Up.refl w | apply Up.drew | apply Up.alloc)) (by omega) (by omega))
set_option maxHeartbeats 400000 in
theorem blank_any (n : Nat) (w : World) (hn1 : 1 ≤ n) (hn2 : n ≤ 1048576) :
    Calls Tryz.prog 21 #[.int .i64 (n : Int)] w (RMade w n (List.replicate (n * 64) 0)) := by
  obtain ⟨i0, hi0, hz0, hz1, hz2⟩ := info_parts info_u8
  have I0 := Lib.hid (And.intro hi0 (And.intro hz0 (And.intro hz1 hz2))); clear hi0 hz0 hz1 hz2
  have B0 : Hid (i0.bytes * (n * 64) ≤ 281474976710656 ∧ n * 64 ≤ maxLen) := by rw [I0.out.2.2.2]; exact ⟨by omega, by unfold maxLen; omega⟩
  have HL : Hid ((List.replicate (n * 64) 0).length = n * 64) := List.length_replicate
  go_enter Tryz.func21, Tryz.ntmps21
  go_wp2_with (first
    | (at_make; refine wpList_make_full w rfl _ _ 27 rfl w.heap.size 5 i0 (.int .u8 0) 1 Tryz.underlying27 I0.out.1 I0.out.2.1 I0.out.2.2.1 .i64 .i64 _ _ (n * 64) rfl rfl (by simp) (by simp) B0.out.1 B0.out.2 (Nat.le_refl _) ?_; intro w1 hown hg)
    | (go_at_call 53; have HC : Hid (w1.heap[w.heap.size]? = some (.cells (vals (List.replicate (n * 64) 0) ++ []).toArray 5 (0, 0))) := by
         rw [vals_zero] at hown
         obtain ⟨c, rest, hv, hb, hc, hl, hm⟩ := own_block hown (by omega)
         injection hv with e1 e2 e3
         injection e1 with e1
         injection e1 with e1
         subst e1
         obtain rfl : rest = [] := List.eq_nil_of_length_eq_zero (by omega)
         exact hc
       refine (of_any w.heap.size n (n * 64) (List.replicate (n * 64) 0) [] w1 hn1 hn2 HL HC).mono ?_; rintro e w2 ⟨g, o, v, t, rfl, hd, hg1, ho1, hv1, ht1, hb2⟩))
  go_ret
  have HB : Below w.heap.size w w1 := (Below.refl _ w).grown hg (Nat.le_refl _) (fun k e => by cases e)
  have hs := HB.size
  exact ⟨g, o, v, t, rfl, hd, by omega, by omega, by omega, by omega, HB.trans (hb2.mono hs)⟩
end Go.Proofs.YtledfdpabmlecaaGreatDoor
end
section
set_option maxRecDepth 100000
namespace Go.Proofs.YtledfdpabmlecaaGreatDoor
open Go.RowKit Go.Maps
/-- The bytes when the sectors below i have gone through the crash. -/
def half (n : Nat) (s : Flash) (keep : List Bool) (T : List (Int × Int)) (i : Nat) : List Nat :=
  (List.range (n * 64)).map fun p => if p / 64 < i then crashByte s.cur s.old keep T p else crashByte s.cur s.old [] [] p
section
variable {n i : Nat} {s : Flash} {keep : List Bool} {T : List (Int × Int)}
theorem half_len (n : Nat) (s : Flash) (keep : List Bool) (T : List (Int × Int)) (i : Nat) : (half n s keep T i).length = n * 64 := by simp [half]
theorem half_get {p : Nat} (hp : p < n * 64) : (half n s keep T i).getD p 0 = if p / 64 < i then crashByte s.cur s.old keep T p else crashByte s.cur s.old [] [] p := by
  unfold half
  rw [List.getD_eq_getElem?_getD, List.getElem?_map, List.getElem?_range hp]; rfl
theorem half_zero : half n s keep T 0 = oldImg n s := by
  unfold half oldImg crashed
  apply List.map_congr_left
  intro p _
  rw [if_neg (Nat.not_lt_zero _)]
theorem half_end : half n s keep T n = crashed n s.cur s.old keep T := by
  unfold half crashed
  apply List.map_congr_left
  intro p hp
  rw [List.mem_range] at hp
  rw [if_pos (by omega)]
theorem half_no (h : s.old i = none) : half n s keep T (i + 1) = half n s keep T i := by
  unfold half
  apply List.map_congr_left
  intro p _
  by_cases e : p / 64 = i
  · rw [if_pos (by omega), if_neg (by omega)]
    unfold crashByte
    rw [e, h]
  · by_cases e2 : p / 64 < i
    · rw [if_pos e2, if_pos (by omega)]
    · rw [if_neg e2, if_neg (by omega)]
/-- The first m bytes of a sector's new bytes. -/
def secTake (cur : List Nat) (i m : Nat) : List Nat := (cur.drop (i * 64)).take m
theorem secTake_len {cur : List Nat} {m : Nat} (hc : cur.length = n * 64) (hi : i < n) (hm : m ≤ 64) : (secTake cur i m).length = m := by
  unfold secTake; rw [List.length_take, List.length_drop]; omega
theorem secTake_get {cur : List Nat} {m j : Nat} (hj : j < m) : (secTake cur i m)[j]? = cur[i * 64 + j]? := by
  unfold secTake; rw [List.getElem?_take_of_lt hj, List.getElem?_drop]
theorem half_yes {l : List Nat} (hi : i < n) (hc : s.cur.length = n * 64) (h : s.old i = some l) {rest : List Value} {m : Nat} (hm : m = keptBy keep T (dirtyCount i s.old)) :
    splice (vals (half n s keep T i) ++ rest) (i * 64) (vals (secTake s.cur i m)) = vals (half n s keep T (i + 1)) ++ rest := by
  have hm64 : m ≤ 64 := by rw [hm]; exact keptBy_le _ _ _
  have hl := half_len n s keep T i
  have hsl := secTake_len hc hi hm64
  have e1 : (vals (half n s keep T i) ++ rest).take (i * 64) = vals ((half n s keep T i).take (i * 64)) := by
    rw [List.take_append_of_le_length (by rw [vals_length]; omega)]; simp [vals]
  have e2 : (vals (half n s keep T i) ++ rest).drop (i * 64 + m) = vals ((half n s keep T i).drop (i * 64 + m)) ++ rest := by
    rw [List.drop_append_of_le_length (by rw [vals_length]; omega)]; simp [vals]
  unfold splice
  rw [vals_length, hsl, e1, e2]
  have e3 : (half n s keep T i).take (i * 64) ++ secTake s.cur i m ++ (half n s keep T i).drop (i * 64 + m) = half n s keep T (i + 1) := by
    refine list_ext (k := n * 64) (by rw [List.length_append, List.length_append, List.length_take, List.length_drop, hsl, hl]; omega) (half_len _ _ _ _ _) (fun p hp => ?_)
    rw [half_get hp]
    simp only [List.getD_eq_getElem?_getD]
    by_cases h1 : p < i * 64
    · rw [if_pos (by omega), List.append_assoc, List.getElem?_append_left (by rw [List.length_take]; omega), List.getElem?_take_of_lt h1, ← List.getD_eq_getElem?_getD, half_get hp, if_pos (by omega)]
    · by_cases h2 : p < i * 64 + m
      · rw [if_pos (by omega), List.getElem?_append_left (by rw [List.length_append, List.length_take, hsl]; omega), List.getElem?_append_right (by rw [List.length_take]; omega), List.length_take, Nat.min_eq_left (by omega), secTake_get (by omega), show i * 64 + (p - i * 64) = p by omega, ← List.getD_eq_getElem?_getD]
        have e : p / 64 = i := by omega
        unfold crashByte
        rw [e, h]
        dsimp only
        rw [if_pos (by rw [← hm]; omega)]
      · rw [List.getElem?_append_right (by rw [List.length_append, List.length_take, hsl]; omega), List.getElem?_drop, List.length_append, List.length_take, hsl, Nat.min_eq_left (by omega), show i * 64 + m + (p - (i * 64 + m)) = p by omega, ← List.getD_eq_getElem?_getD, half_get hp]
        by_cases e : p / 64 = i
        · rw [if_neg (by omega), if_pos (by omega)]
          unfold crashByte
          rw [e, h]
          dsimp only
          rw [keptBy_nil, if_neg (by omega), if_neg (by rw [← hm]; omega)]
        · rw [if_neg (by omega), if_neg (by omega)]
  rw [← e3]
  simp [vals]
end
theorem run_slice_mid {P : Program} {t e : TypeId} (ht : P.underlying t = some (.slice e)) (hsz : (P.info? e).map (·.size) = some 1) (c N cap p q : Nat) (hpq : p ≤ q) (hq : q ≤ cap) (hlt : p < cap) (w : World) :
    (Instr.sliceAt t (.slice (some ⟨c, 0, none⟩) N cap) (some (.int .i64 (p : Int))) (some (.int .i64 (q : Int))) none).run P w = .ok (.slice (some ⟨c, p, none⟩) (q - p) (cap - p)) w := by
  cases hi : P.info? e with
  | none => simp [hi] at hsz
  | some i =>
    have hs : i.size = 1 := by simpa [hi] using hsz
    have h1 : ¬ cap = p := by omega
    simp [Instr.sliceAt, Instr.slice, Instr.sliceBounds, Instr.sliceBound, asIntOf, run_underlying ht, sizeOf, typeInfo, hi, hs, hpq, hq, h1, Result.andThen, add_flat]
/-- 's[p:q]' of a slice at the head of a block, in a region that stands still. -/
theorem wpStill_slice_mid {P : Program} {ops : Array Oper} {rest : List Oper} {o : Oper} {a : Act} {w : World} {Q : Act → Prop} (hw : Region.wanted o (yielded ops a.tmps) = true) (x lo hi : Operand) (t : TypeId)
    (ho : o.op = .slice t x (some lo) (some hi) none) (e : TypeId) (ht : P.underlying t = some (.slice e)) (hsz : (P.info? e).map (·.size) = some 1) (c N cap : Nat) (X Y : Int) (p q : Nat)
    (hx : a.eval x = .slice (some ⟨c, 0, none⟩) N cap) (hlo : a.eval lo = .int .i64 X) (hhi : a.eval hi = .int .i64 Y) (hX : X = (p : Int)) (hY : Y = (q : Int)) (hpq : p ≤ q) (hq : q ≤ cap) (hlt : p < cap)
    (h : wpStill P ops w Q rest (a.put o.dst (.slice (some ⟨c, p, none⟩) (q - p) (cap - p)))) : wpStill P ops w Q (o :: rest) a := by
  refine wpStill_step fun K hK => ?_
  rw [if_pos hw]
  subst hX hY
  have hrun := run_slice_mid (P := P) ht hsz c N cap p q hpq hq hlt
  unfold Oper.still
  simp [execOp, ho, hx, hlo, hhi, hrun, Result.andThen, Oper.stillUpon]
  exact hK _ h
/-- What holds at the head of the loop's rounds: W is the world behind Of. -/
structure CAt (w W wr : World) (o' v' n : Nat) (s : Flash) (keep : List Bool) (T : List (Int × Int)) (i : Nat) (ro rv : List Value) : Prop where
  olds : VRow wr o' (half n s keep T i) ro
  news : VRow wr v' (half n s keep T i) rv
  kept : Kept (fun k => k = o' ∨ k = v') W wr
  below : Below w.heap.size w wr
theorem CAt.next {w W wr wx : World} {o' v' n : Nat} {s : Flash} {keep : List Bool} {T : List (Int × Int)} {i : Nat} {ro rv : List Value} (h : CAt w W wr o' v' n s keep T i ro rv) (hb : Below wr.heap.size wr wx) : CAt w W wx o' v' n s keep T i ro rv :=
  ⟨(hb.block o' (Array.getElem?_eq_some_iff.1 h.olds).1).trans h.olds, (hb.block v' (Array.getElem?_eq_some_iff.1 h.news).1).trans h.news, h.kept.trans (Kept.of_new hb), h.below.trans (hb.mono h.below.size)⟩
theorem CAt.drew {w W wr : World} {o' v' n : Nat} {s : Flash} {keep : List Bool} {T : List (Int × Int)} {i : Nat} {ro rv : List Value} (h : CAt w W wr o' v' n s keep T i ro rv) : CAt w W wr.drew o' v' n s keep T i ro rv :=
  ⟨h.olds, h.news, h.kept.drewN 1, h.below.drew⟩
end Go.Proofs.YtledfdpabmlecaaGreatDoor
end
section
set_option maxRecDepth 100000
namespace Go.Proofs.YtledfdpabmlecaaGreatDoor
open Go.RowKit Go.Maps
theorem below_step {B : Nat} {a b b' c : World} (h : Below B a b) (k : Below b'.heap.size b' c) (e1 : b'.heap = b.heap) (e2 : b'.os = b.os) (e3 : b'.tape = b.tape) (e4 : b'.output = b.output) (hB : B ≤ b.heap.size) : Below B a c :=
  ⟨k.os.trans (e2.trans h.os), k.tape.trans (e3.trans h.tape), k.output.trans (e4.trans h.output), Nat.le_trans h.size (by have := k.size; rw [e1] at this; exact this), fun i hi => (k.block i (by rw [e1]; omega)).trans (by rw [e1]; exact h.block i hi)⟩
theorem cells_up {w W : World} {r : Nat} {a0 a1 a2 a3 a4 a5 a6 : Value} {T : TypeId} (hh : w.heap[r]? = some (.cells #[a0, a1, a2, a3, a4, a5, a6] T (0, 0))) (hb : Below w.heap.size w W) (hl : r < w.heap.size) :
    W.cell? ⟨r, 1, none⟩ = some a1 ∧ W.cell? ⟨r, 2, none⟩ = some a2 ∧ W.cell? ⟨r, 5, none⟩ = some a5 ∧ W.cell? ⟨r, 6, none⟩ = some a6 := by
  obtain ⟨⟨-, c1, c2, -, -, c5, c6⟩, -⟩ := rd7 ((hb.block r hl).trans hh)
  exact ⟨c1, c2, c5, c6⟩
end Go.Proofs.YtledfdpabmlecaaGreatDoor
end
section
set_option maxRecDepth 100000
namespace Go.Proofs.YtledfdpabmlecaaGreatDoor
open Go.RowKit Go.Maps
def Flash.readErr (s : Flash) (n : Nat) (i : Int) : Int := if s.dead = true then 1 else if i < 0 ∨ (n : Int) ≤ i then 2 else 0
def Flash.readOf (s : Flash) (n : Nat) (i : Int) : List Nat := if s.dead = true then [] else if i < 0 ∨ (n : Int) ≤ i then [] else sec s.cur i.toNat
def ReadDid (w : World) (l : List Nat) (k : Int) (e : Ending) (w' : World) : Prop :=
  ∃ A c, e = .returned (.tuple #[.slice A l.length c, .int .i64 k]) ∧ Bs w' w'.heap.size A l ∧ Below w.heap.size w w'
theorem ReadNo.did {w : World} {k : Int} {e : Ending} {w' : World} (h : ReadNo w k e w') : ReadDid w [] k e w' := by
  obtain ⟨rfl, rfl⟩ := h
  exact ⟨none, 0, rfl, fun k hk => absurd hk (by simp), Below.refl _ _⟩
theorem ReadOk.did {w : World} {l : List Nat} {e : Ending} {w' : World} (h : ReadOk w l e w') : ReadDid w l 0 e w' := by
  obtain ⟨g1, cap, rfl, h1, h2, h3, h4, h5, h6⟩ := h
  exact ⟨some ⟨g1, 0, none⟩, cap, by rw [h2], h3, h6⟩
section
variable {w : World} {n : Nat} {s : Flash}
theorem readOf_len (h : FlashOk n s) (i : Int) : (s.readOf n i).length ≤ 64 := by
  unfold Flash.readOf
  split
  · simp
  · split
    · simp
    · rename_i h1
      rw [sec_len h.len (by omega)]; omega
theorem dread_any {g c m : Nat} (i : Int) (hd : Hid (Dev w g c m n s)) :
    Calls Tryz.prog 29 #[.pointer (some ⟨g, 0, none⟩), .int .i64 i] w (ReadDid w (s.readOf n i) (s.readErr n i)) := by
  unfold Flash.readOf Flash.readErr
  by_cases h1 : s.dead = true
  · rw [if_pos h1, if_pos h1]
    exact (read_dead i hd h1).mono fun _ _ => ReadNo.did
  rw [if_neg h1, if_neg h1]
  have h1' : s.dead = false := by simpa using h1
  by_cases h2 : i < 0 ∨ (n : Int) ≤ i
  · rw [if_pos h2, if_pos h2]
    exact (read_range i h2 hd h1').mono fun _ _ => ReadNo.did
  rw [if_neg h2, if_neg h2]
  obtain ⟨j, rfl⟩ : ∃ j : Nat, i = (j : Int) := ⟨i.toNat, by omega⟩
  rw [Int.toNat_natCast]
  exact (read_ok j _ rfl (by omega) hd h1').mono fun _ _ => ReadOk.did
end
theorem write_wr (s : Flash) (n : Nat) (i : Int) (b : List Nat) : (s.write n i b).wr ≤ s.wr + 1 := by
  unfold Flash.write
  split
  · omega
  · split
    · show s.burnt.wr + 1 ≤ _
      rw [(burnt_cur s).2.2]; exact Nat.le_refl _
    · rw [(burnt_cur s).2.2]; omega
theorem barrier_wr (s : Flash) : s.barrier.wr ≤ s.wr := by
  unfold Flash.barrier
  split
  · exact Nat.le_refl _
  · split
    · show s.burnt.wr ≤ _
      rw [(burnt_cur s).2.2]; exact Nat.le_refl _
    · rw [(burnt_cur s).2.2]; exact Nat.le_refl _
theorem Kept.step {S : Nat → Prop} {b b' c : World} (k : Kept S b' c) (e1 : b'.heap = b.heap) (e2 : b'.os = b.os) (e3 : b'.tape = b.tape) (e4 : b'.output = b.output) : Kept S b c :=
  ⟨k.os.trans e2, k.tape.trans e3, k.output.trans e4, by have := k.size; rw [e1] at this; exact this, fun i hi hn => (k.block i (by rw [e1]; exact hi) hn).trans (by rw [e1])⟩
/-- Both devices, at the head of the script's rounds. -/
structure ScriptAt (w wr : World) (g c m r o v t n i : Nat) (s : Flash) : Prop where
  dev : Dev wr g c m n s
  ref : RDev wr r o v t n i s
  wr_ : s.wr ≤ i
  below : Below w.heap.size w wr
  ge : ∀ k, devS g c m k ∨ rS r o v t k → w.heap.size ≤ k
  apart : ∀ k, devS g c m k → ¬ rS r o v t k
section
variable {w wr : World} {g c m r o v t n i : Nat} {s : Flash}
theorem ScriptAt.next {wx : World} (h : ScriptAt w wr g c m r o v t n i s) (hb : Below wr.heap.size wr wx) : ScriptAt w wx g c m r o v t n i s :=
  ⟨h.dev.next hb, h.ref.next hb, h.wr_, h.below.trans (hb.mono h.below.size), h.ge, h.apart⟩
theorem ScriptAt.drew (h : ScriptAt w wr g c m r o v t n i s) : ScriptAt w wr.drew g c m r o v t n i s :=
  ⟨h.dev, h.ref, h.wr_, h.below.drew, h.ge, h.apart⟩
theorem ScriptAt.more (h : ScriptAt w wr g c m r o v t n i s) : ScriptAt w wr g c m r o v t n (i + 1) s :=
  ⟨h.dev, h.ref.more (by omega), by have := h.wr_; omega, h.below, h.ge, h.apart⟩
/-- d's call, then the reference's. -/
theorem ScriptAt.both {w1 w2 : World} {s' : Flash} (h : ScriptAt w wr g c m r o v t n i s) (hk1 : Kept (devS g c m) wr w1) (hd : Dev w1 g c m n s') (hr : RDev w2 r o v t n (i + 1) s') (hk2 : Kept (rS r o v t) w1 w2) (hw : s'.wr ≤ i + 1) : ScriptAt w w2 g c m r o v t n (i + 1) s' := by
  refine ⟨hd.kept hk2 (h.apart g (.inl rfl)) (h.apart c (.inr (.inl rfl))) (h.apart m (.inr (.inr rfl))), hr, hw, ?_, h.ge, h.apart⟩
  have b1 := h.below.trans (hk1.below h.below.size (fun k hk => h.ge k (.inl hk)))
  exact b1.trans (hk2.below b1.size (fun k hk => h.ge k (.inr hk)))
theorem ScriptAt.ref1 {w1 : World} (h : ScriptAt w wr g c m r o v t n i s) (hk1 : Kept (devS g c m) wr w1) : RDev w1 r o v t n i s :=
  h.ref.kept hk1 (fun k => h.apart r k (.inl rfl)) (fun k => h.apart o k (.inr (.inl rfl))) (fun k => h.apart v k (.inr (.inr (.inl rfl)))) (fun k => h.apart t k (.inr (.inr (.inr rfl))))
end
end Go.Proofs.YtledfdpabmlecaaGreatDoor
end
section
namespace Go.Proofs.YtledfdpabmlecaaGreatDoor
namespace Sp
open Sb
theorem good_one {x : Int} {l : List Nat} {s t : S} (h : good x l s) (k : good x l t) : s = t := (good_rd rl_reads counts h).symm.trans (good_rd rl_reads counts k)
/-- The superblock of a sector, if it belongs there. -/
noncomputable def cand (x : Int) (l : List Nat) : Option S := by
  classical exact if h : ∃ s, good x l s ∧ s.gen % 2 = x then some (Classical.choose h) else none
theorem cand_some {x : Int} {l : List Nat} {s : S} (h : good x l s) (hg : s.gen % 2 = x) : cand x l = some s := by
  have hx : ∃ s, good x l s ∧ s.gen % 2 = x := ⟨s, h, hg⟩
  unfold cand
  rw [dif_pos hx]
  exact congrArg some (good_one (Classical.choose_spec hx).1 h)
theorem cand_none {x : Int} {l : List Nat} (h : ∀ s, good x l s → s.gen % 2 ≠ x) : cand x l = none := by
  unfold cand
  rw [dif_neg]
  rintro ⟨s, h1, h2⟩
  exact h s h1 h2
theorem cand_of {x : Int} {l : List Nat} {s : S} (h : cand x l = some s) : good x l s ∧ s.gen % 2 = x := by
  unfold cand at h
  split at h
  · rename_i hx
    injection h with h
    subst h
    exact Classical.choose_spec hx
  · cases h
theorem gen_pos {x : Int} {l : List Nat} {s : S} (h : good x l s) : 1 ≤ s.gen ∧ s.gen ≤ 1099511627775 := h.2.1.1.1
/-- The newer one. -/
def over : Option S → Option S → Option S
  | o, none => o
  | none, some s => some s
  | some b, some s => if b.gen < s.gen then some s else some b
theorem over_none (c : Option S) : over none c = c := by cases c <;> rfl
theorem over_newer {a b : S} (h : a.gen < b.gen) : over (some a) (some b) = some b := if_pos h
theorem over_elder {a b : S} (h : ¬ a.gen < b.gen) : over (some a) (some b) = some a := if_neg h
/-- What is found in the two sectors. -/
noncomputable def newest (l0 l1 : List Nat) : Option S := over (cand 0 l0) (cand 1 l1)
theorem enc_head (x : Int) (s : S) : (enc x s).getD 0 0 = 3 := rfl
theorem no_zero (x : Int) (s : S) : ¬ good x (List.replicate 64 0) s := fun h => by
  have := enc_head x s
  rw [h.2.2] at this
  exact absurd this (by decide)
theorem cand_zero (x : Int) : cand x (List.replicate 64 0) = none := cand_none fun s h => absurd h (no_zero x s)
theorem cand_enc {x : Int} {s : S} (hv : valid s) (hx : s.gen % 2 = x) : cand x (enc x s) = some s := by
  refine cand_some ⟨?_, hv, rfl⟩ hx
  unfold Fr.may
  omega
end Sp
theorem sp_ext {a b : List Nat} {k : Nat} (ha : a.length = k) (hb : b.length = k) (h : ∀ p, p < k → a.getD p 0 = b.getD p 0) : a = b :=
  getD_ext (ha.trans hb.symm) (fun j hj => h j (by omega))
theorem pad_whole {b : List Nat} (h : b.length = 64) : pad b = b := by unfold pad; rw [h]; simp
theorem sec_put {l p : List Nat} {n i j : Nat} (hl : l.length = n * 64) (hi : i < n) (hj : j < n) (hp : p.length = 64) : sec (putSec l i p) j = if j = i then p else sec l j := by
  have h64 : (if j = i then p else sec l j).length = 64 := by
    split
    · exact hp
    · exact sec_len hl hj
  refine sp_ext (k := 64) (sec_len (putSec_len hl hi hp) hj) h64 fun k hk => ?_
  rw [sec_get hk, putSec_get hl hi hp, show (j * 64 + k) / 64 = j by omega, show (j * 64 + k) % 64 = k by omega]
  by_cases h : j = i
  · rw [if_pos h, if_pos h]
  · rw [if_neg h, if_neg h, sec_get hk]
theorem spcrash_len (n : Nat) (cur : List Nat) (old : Nat → Option (List Nat)) (keep : List Bool) (T : List (Int × Int)) : (crashed n cur old keep T).length = n * 64 := by simp [crashed]
theorem spcrash_get {n : Nat} {cur : List Nat} {old : Nat → Option (List Nat)} {keep : List Bool} {T : List (Int × Int)} {p : Nat} (hp : p < n * 64) : (crashed n cur old keep T).getD p 0 = crashByte cur old keep T p := by
  unfold crashed
  rw [List.getD_eq_getElem?_getD, List.getElem?_map, List.getElem?_range hp]; rfl
/-- Nothing dirty: a crash changes nothing. -/
theorem crash_clean {n : Nat} {cur : List Nat} (hl : cur.length = n * 64) (keep : List Bool) (T : List (Int × Int)) : crashed n cur (fun _ => none) keep T = cur :=
  sp_ext (spcrash_len _ _ _ _ _) hl fun p hp => by rw [spcrash_get hp]; rfl
/-- What is dirty behind one Write. -/
def oneOld (i : Nat) (o : List Nat) : Nat → Option (List Nat) := fun k => if k = i then some o else none
theorem one_count (i : Nat) (o : List Nat) : dirtyCount i (oneOld i o) = 0 := by
  unfold dirtyCount dirtyList
  rw [List.length_eq_zero_iff, List.filter_eq_nil_iff]
  intro k hk
  rw [List.mem_range] at hk
  unfold oneOld
  rw [if_neg (by omega)]
  simp
theorem sec_crash {n i j : Nat} {cur o : List Nat} {keep : List Bool} {T : List (Int × Int)} (hl : cur.length = n * 64) (hj : j < n) (ho : o.length = 64) :
    sec (crashed n cur (oneOld i o) keep T) j = if j = i then (sec cur i).take (keptBy keep T 0) ++ o.drop (keptBy keep T 0) else sec cur j := by
  have hk := keptBy_le keep T 0
  by_cases h : j = i
  · subst h
    rw [if_pos rfl]
    refine sp_ext (sec_len (spcrash_len _ _ _ _ _) hj) (by rw [List.length_append, List.length_take, List.length_drop, sec_len hl hj, ho]; omega) fun k hk64 => ?_
    rw [sec_get hk64, spcrash_get (by omega)]
    unfold crashByte
    rw [show (j * 64 + k) / 64 = j by omega, show (j * 64 + k) % 64 = k by omega, one_count]
    have e : oneOld j o j = some o := if_pos rfl
    rw [e]
    show (if k < _ then _ else _) = _
    have hs := torn_get (cur := cur) (l := o) (n := n) hl hj hk hk64
    unfold tornSec at hs
    rw [hs]
  · rw [if_neg h]
    refine sp_ext (sec_len (spcrash_len _ _ _ _ _) hj) (sec_len hl hj) fun k hk64 => ?_
    rw [sec_get hk64, spcrash_get (by omega), sec_get hk64]
    unfold crashByte
    rw [show (j * 64 + k) / 64 = j by omega]
    have e : oneOld i o j = none := if_neg h
    rw [e]
/-- What Publish leaves, and its error. -/
def Flash.pub (s : Flash) (n : Nat) (S : Sb.S) : Flash := if Sb.valid S then (if s.writeErr n (S.gen % 2) (Sb.enc (S.gen % 2) S) = 0 then (s.write n (S.gen % 2) (Sb.enc (S.gen % 2) S)).barrier else s.write n (S.gen % 2) (Sb.enc (S.gen % 2) S)) else s
def Flash.pubErr (s : Flash) (n : Nat) (S : Sb.S) : Int := if Sb.valid S then (if s.writeErr n (S.gen % 2) (Sb.enc (S.gen % 2) S) = 0 then (s.write n (S.gen % 2) (Sb.enc (S.gen % 2) S)).barrierErr else s.writeErr n (S.gen % 2) (Sb.enc (S.gen % 2) S)) else 4
/-- A device at work, nothing dirty. -/
def Flash.clean (l : List Nat) (wr : Nat) (fused : Bool) (fuse : Int) : Flash := ⟨l, fun _ => none, wr, fused, fuse, false⟩
theorem fresh_clean (l : List Nat) : Flash.fresh l = Flash.clean l 0 false 0 := rfl
theorem clean_fuse (l : List Nat) (wr : Nat) (b : Bool) (f k : Int) (hk : 0 ≤ k) : (Flash.clean l wr b f).setFuse k = Flash.clean l wr true k := by
  unfold Flash.setFuse Flash.clean
  rw [decide_eq_true hk]
section
variable {S : Sb.S} {n : Nat} {l : List Nat} {wr : Nat}
theorem gen_at : 0 ≤ S.gen % 2 ∧ S.gen % 2 < 2 := by omega
theorem pub_err (hn : 2 ≤ n) (b : Bool) (f : Int) : (Flash.clean l wr b f).writeErr n (S.gen % 2) (Sb.enc (S.gen % 2) S) = if b = true ∧ f = 0 then 1 else 0 := by
  unfold Flash.writeErr Flash.clean Flash.lasts
  rw [Sb.enc_length]
  simp only [Bool.false_eq_true, if_false, Nat.lt_irrefl]
  rw [if_neg (by omega)]
  cases b <;> simp
theorem burnt_clean {f : Int} (h : f ≠ 0) : (Flash.clean l wr true f).burnt = Flash.clean l wr true (f - 1) := by
  simp [Flash.burnt, Flash.clean, h]
/-- With power for all of it. -/
theorem pub_all (hv : Sb.valid S) (hn : 2 ≤ n) (b : Bool) (f : Int) (hf : b = true → 2 ≤ f) :
    ∃ f', (Flash.clean l wr b f).pub n S = Flash.clean (putSec l (S.gen % 2).toNat (Sb.enc (S.gen % 2) S)) (wr + 1) b f' ∧ (Flash.clean l wr b f).pubErr n S = 0 := by
  have e := pub_err (S := S) (l := l) (wr := wr) hn b f
  have hx : ¬ (b = true ∧ f = 0) := fun h => by have := hf h.1; omega
  rw [if_neg hx] at e
  have hw : (Flash.clean l wr b f).write n (S.gen % 2) (Sb.enc (S.gen % 2) S) = ⟨putSec l (S.gen % 2).toNat (Sb.enc (S.gen % 2) S), oneOld (S.gen % 2).toNat (sec l (S.gen % 2).toNat), wr + 1, b, (if b = true then f - 1 else f), false⟩ := by
    unfold Flash.write
    rw [if_neg (by rw [Sb.enc_length]; simp [Flash.clean]; omega)]
    have hl : (Flash.clean l wr b f).lasts = true := by
      unfold Flash.lasts Flash.clean
      cases b with
      | false => rfl
      | true => have := hf rfl; simp; omega
    rw [if_pos hl]
    unfold Flash.wrote
    rw [pad_whole (Sb.enc_length _ _)]
    cases b with
    | false => rfl
    | true =>
      rw [burnt_clean (by have := hf rfl; omega)]
      rfl
  unfold Flash.pub Flash.pubErr
  rw [if_pos hv, if_pos hv, if_pos e, if_pos e, hw]
  unfold Flash.barrier Flash.barrierErr Flash.lasts Flash.burnt Flash.clean
  cases b with
  | false => exact ⟨f, rfl, rfl⟩
  | true =>
    have := hf rfl
    have h1 : ¬ (f - 1 = 0) := by omega
    refine ⟨f - 1 - 1, ?_, ?_⟩
    · simp [h1]
    · simp [h1]
/-- Without power for the Write. -/
theorem pub_none (hv : Sb.valid S) (hn : 2 ≤ n) : (Flash.clean l wr true 0).pub n S = { Flash.clean l wr true 0 with dead := true } ∧ (Flash.clean l wr true 0).pubErr n S = 1 := by
  have e := pub_err (S := S) (l := l) (wr := wr) hn true 0
  rw [if_pos ⟨rfl, rfl⟩] at e
  unfold Flash.pub Flash.pubErr
  rw [if_pos hv, if_pos hv, e, if_neg (by decide), if_neg (by decide)]
  refine ⟨?_, rfl⟩
  unfold Flash.write
  rw [if_neg (by rw [Sb.enc_length]; simp [Flash.clean]; omega)]
  rfl
/-- With power for the Write alone. -/
theorem pub_half (hv : Sb.valid S) (hn : 2 ≤ n) : (Flash.clean l wr true 1).pub n S = ⟨putSec l (S.gen % 2).toNat (Sb.enc (S.gen % 2) S), oneOld (S.gen % 2).toNat (sec l (S.gen % 2).toNat), wr + 1, true, 0, true⟩ ∧ (Flash.clean l wr true 1).pubErr n S = 1 := by
  have e := pub_err (S := S) (l := l) (wr := wr) hn true 1
  rw [if_neg (by decide)] at e
  have hw : (Flash.clean l wr true 1).write n (S.gen % 2) (Sb.enc (S.gen % 2) S) = ⟨putSec l (S.gen % 2).toNat (Sb.enc (S.gen % 2) S), oneOld (S.gen % 2).toNat (sec l (S.gen % 2).toNat), wr + 1, true, 0, false⟩ := by
    unfold Flash.write
    rw [if_neg (by rw [Sb.enc_length]; simp [Flash.clean]; omega), if_pos (show (Flash.clean l wr true 1).lasts = true from rfl), burnt_clean (by decide)]
    unfold Flash.wrote
    rw [pad_whole (Sb.enc_length _ _)]
    rfl
  unfold Flash.pub Flash.pubErr
  rw [if_pos hv, if_pos hv, if_pos e, if_pos e, hw]
  exact ⟨rfl, rfl⟩
theorem pub_bad (hv : ¬ Sb.valid S) (s : Flash) : s.pub n S = s ∧ s.pubErr n S = 4 := ⟨if_neg hv, if_neg hv⟩
end
end Go.Proofs.YtledfdpabmlecaaGreatDoor
end
section
set_option maxRecDepth 100000
namespace Go.Proofs.YtledfdpabmlecaaGreatDoor
open Go.RowKit
/-- A device's blocks: behind what was there at first, apart from a box. -/
def DevNew (w : World) (g c m : Nat) : Prop := w.heap.size ≤ g ∧ w.heap.size ≤ c ∧ w.heap.size ≤ m
theorem devnew_on {w w' : World} {g c m : Nat} (h : DevNew w' g c m) (hs : w.heap.size ≤ w'.heap.size) : DevNew w g c m := ⟨Nat.le_trans hs h.1, Nat.le_trans hs h.2.1, Nat.le_trans hs h.2.2⟩
/-- A device's call: all that was there before the device stays. -/
theorem dev_below {w W W' : World} {g c m : Nat} (h : Below w.heap.size w W) (hn : DevNew w g c m) (hk : Kept (devS g c m) W W') : Below w.heap.size w W' :=
  h.trans (hk.below h.size (fun k hk => by unfold devS at hk; unfold DevNew at hn; omega))
theorem dev_box {w W W' : World} {g c m b : Nat} {o : Obj} (hb : W.heap[b]? = some o) (hn : DevNew w g c m) (hlt : b < w.heap.size) (hk : Kept (devS g c m) W W') : W'.heap[b]? = some o :=
  (hk.block b (Array.getElem?_eq_some_iff.1 hb).1 (fun hd => by unfold devS at hd; unfold DevNew at hn; omega)).trans hb
theorem dev_tab {w W : World} (ht : TabW w) (hz : 0 < w.heap.size) (hb : Below w.heap.size w W) : TabW W ∧ 0 < W.heap.size := ⟨ht.below hb hz, Nat.lt_of_lt_of_le hz hb.size⟩
theorem Dev.on {W W' : World} {g c m n : Nat} {fs : Flash} (h : Dev W g c m n fs) (hb : Below W.heap.size W W') : Dev W' g c m n fs := h.below hb h.lt.1 h.lt.2.1 h.lt.2.2
theorem clean_none (n : Nat) : dirtyCount n (fun _ => none) = 0 := by
  unfold dirtyCount dirtyList
  rw [List.length_eq_zero_iff, List.filter_eq_nil_iff]
  intro k _
  simp
/-- What New leaves. -/
def NewDev (w : World) (n : Nat) (r : Ending) (w' : World) : Prop := ∃ g c m, r = .returned (.pointer (some ⟨g, 0, none⟩)) ∧ Dev w' g c m n (Flash.fresh (List.replicate (n * 64) 0)) ∧ DevNew w g c m ∧ Below w.heap.size w w'
theorem new_dev (n : Nat) (ni : Int) (hni : ni = (n : Int)) (w : World) (h1 : 1 ≤ n) (h2 : n ≤ 1048576) : Calls Tryz.prog 15 #[.int .i64 ni] w (NewDev w n) :=
  (new_yes n ni hni w h1 h2).mono fun _ _ ⟨g, c, m, e, hd, q1, q2, q3, hb⟩ => ⟨g, c, m, e, hd, ⟨q1, q2, q3⟩, hb⟩
end Go.Proofs.YtledfdpabmlecaaGreatDoor
end
