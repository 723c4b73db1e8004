/-
  The program's Order: its comparison, the sort, a copy.
-/
import Derived.Test.YtmkilbogdenljaaSlSort
import Derived.Test.YtmkilbogdenljaaSlRef
import Derived.Test.YtmkilbogdenljaaCmpZ
import Derived.Test.YtmkilbogdenljaaIns
import Derived.Shelf.SlSortCmp.InsertionK
set_option maxRecDepth 100000
namespace Go.Proofs.Ytmkilbogdenljaa
open Go.RowKit
def cmpR (x y : Gm.R) : Int := cmpZ x.seq y.seq
theorem lt_reg : ltOf cmpR = Sl.lt := funext fun x => funext fun y => by
  unfold ltOf cmpR cmpZ Sl.lt
  by_cases h : x.seq < y.seq
  · rw [if_pos h, decide_eq_true h]; rfl
  · rw [if_neg h, decide_eq_false h]
    split <;> rfl
set_option maxHeartbeats 1000000 in
theorem order_clo (x y : Gm.R) (W : World) : Calls Try.prog 26 #[.agg (rcs x).toArray, .agg (rcs y).toArray] W fun e w' => e = .returned (.int .i64 (cmpR x y)) ∧ ∃ q os', w' = Go.Sort.grow (W.drewN q) os' := by
  have hcon : ∀ W', Calls Try.prog 27 #[.int .i64 x.seq, .int .i64 y.seq] W' fun e w' => e = .returned (.int .i64 (cmpR x y)) ∧ w' = W' := fun W' => cmpz_any x.seq y.seq W'
  generalize cmpR x y = r at hcon ⊢
  obtain ⟨x0, x1, x2, x3, x4, x5, ⟨x6, x7, x8, x9⟩⟩ := x
  obtain ⟨y0, y1, y2, y3, y4, y5, ⟨y6, y7, y8, y9⟩⟩ := y
  simp only at hcon
  change Calls Try.prog _ #[.agg #[.int .i64 x0, .int .i64 x1, .int .i64 x2, .int .i64 x3, .int .i64 x4, .int .i64 x5, .int .i64 x6, .int .i64 x7, .int .i64 x8, .int .i64 x9], .agg #[.int .i64 y0, .int .i64 y1, .int .i64 y2, .int .i64 y3, .int .i64 y4, .int .i64 y5, .int .i64 y6, .int .i64 y7, .int .i64 y8, .int .i64 y9]] W _
  go_enter Try.func26, Try.ntmps26
  go_wp2_with (go_at_call 27; refine (hcon _).mono ?_; rintro e w' ⟨rfl, rfl⟩)
  go_ret
  exact ⟨rfl, 0, _, by rw [Go.Sort.alloc_eq_grow, Go.Sort.alloc_eq_grow, Go.Sort.grow_grow]; rfl⟩
theorem flat_k (L : List Gm.R) : (Go.Sort.flatK rcs 10 L.toArray).toList = regS.flat L := by
  have hz : (regS.flat L).length = L.length * 10 := regS.flat_length L
  refine List.ext_getElem? fun j => ?_
  rcases Nat.lt_or_ge j (L.length * 10) with h | h
  · have h6 : j % 10 < 10 := Nat.mod_lt _ (by decide)
    have hl : j / 10 < L.length := by omega
    have e2 := regS.flat_at L (j / 10) (j % 10) hl h6
    rw [show j / 10 * regS.m + j % 10 = j from by show j / 10 * 10 + j % 10 = j; omega] at e2
    have e4 : L.getD (j / 10) regS.z = L[j / 10] := by rw [List.getD_eq_getElem?_getD, List.getElem?_eq_getElem hl]; rfl
    rw [e4] at e2
    rw [e2, Array.getElem?_toList, Array.getElem?_eq_getElem (by rw [Go.Sort.size_flatK, List.size_toArray]; exact h), ← getElem!_pos _ j (by rw [Go.Sort.size_flatK, List.size_toArray]; exact h), Go.Sort.get_flatK rcs 10 L.toArray j (by rw [List.size_toArray]; exact h), getElem!_pos L.toArray (j / 10) (by rw [List.size_toArray]; exact hl)]
    exact (List.getElem?_eq_getElem (show j % 10 < (rcs L[j / 10]).length from h6)).symm ▸ congrArg some (getElem!_pos (rcs L[j / 10]) (j % 10) h6)
  · rw [List.getElem?_eq_none (by rw [Array.length_toList, Go.Sort.size_flatK, List.size_toArray]; exact h), List.getElem?_eq_none (by rw [hz]; exact h)]
theorem put_cells (F c : Array Value) (h : F.size ≤ c.size) : (Go.Sort.putCells id 0 F c).toList.take F.size = F.toList := by
  refine List.ext_getElem? fun j => ?_
  unfold Go.Sort.putCells
  rcases Nat.lt_or_ge j F.size with hj | hj
  · rw [List.getElem?_take_of_lt hj, Array.getElem?_toList, Array.getElem?_toList, Array.getElem?_mapIdx, Array.getElem?_eq_getElem (show j < c.size by omega), Option.map_some, if_pos ⟨Nat.zero_le _, by omega⟩, Nat.sub_zero, getElem!_pos F j hj, Array.getElem?_eq_getElem hj]
    rfl
  · rw [List.getElem?_eq_none (by rw [List.length_take]; omega), List.getElem?_eq_none (by rw [Array.length_toList]; exact hj)]
/-- A row of regions, as the sort has it. -/
theorem reg_holds {w : World} {B g c n : Nat} {L : List Gm.R} (h : ARow regS 40 w B (.slice (some ⟨g, 0, none⟩) n c) n L) : Go.Sort.HoldsK rcs 10 w g 0 L.toArray ∧ g < w.heap.size ∧ B ≤ g := by
  have hn := h.length
  subst hn
  rcases h.2 with ⟨e1, -⟩ | ⟨g', cap, cur, e1, hb, hg, hnc, hcm, hsz, htk⟩
  · cases e1
  · injection e1 with e1 e2 e3
    injection e1 with e1
    injection e1 with e1
    subst e1 e3
    refine ⟨fun j hj => ⟨?_, by rw [Nat.zero_add]; exact frozen_of_row w g _ _ _ hg⟩, (Array.getElem?_eq_some_iff.1 hg).1, hb⟩
    have hj2 : j < (Go.Sort.flatK rcs 10 L.toArray).toList.length := by rw [Array.length_toList]; exact hj
    have e5 : (Go.Sort.flatK rcs 10 L.toArray)[j]! = (Go.Sort.flatK rcs 10 L.toArray).toList[j] := by rw [getElem!_pos _ j hj]; rfl
    have hc := World.ownsRow.cells h (g := g) rfl j _ (by rw [← flat_k]; exact List.getElem?_eq_getElem hj2)
    rw [arr_flat, Nat.zero_add] at hc
    rw [Nat.zero_add, e5]
    exact hc
/-- The row behind a sort. -/
theorem row_sorted {w : World} {B g c n m : Nat} {L : List Gm.R} {d : Array Gm.R} {os : Array Obj} (h : ARow regS 40 w B (.slice (some ⟨g, 0, none⟩) n c) n L) (hd : d.size = n) : ARow regS 40 (sortWorldK rcs 10 w g 0 m d os) B (.slice (some ⟨g, 0, none⟩) n c) n d.toList := by
  rcases h.2 with ⟨e1, -⟩ | ⟨g', cap, cur, e1, hb, hg, hnc, hcm, hsz, htk⟩
  · cases e1
  · injection e1 with e1 e2 e3
    injection e1 with e1
    injection e1 with e1
    subst e1 e3
    have e0 : (Go.Sort.putRowK rcs 10 (Go.Sort.ahead w m) g 0 d).heap[g]? = some (.cells (Go.Sort.putCells id 0 (Go.Sort.flatK rcs 10 d) cur) 40 (0, 0)) := by
      show (w.heap.modify g _)[g]? = _
      rw [Array.getElem?_modify, if_pos rfl, hg]
      rfl
    have hF : (Go.Sort.flatK rcs 10 d).size = n * 10 := by rw [Go.Sort.size_flatK, hd]
    have hcs : cur.size = c * 10 := hsz
    refine ⟨by rw [Shape.flat_length, Array.length_toList, hd], .inr ⟨g, c, Go.Sort.putCells id 0 (Go.Sort.flatK rcs 10 d) cur, rfl, hb, ?_, hnc, hcm, ?_, ?_⟩⟩
    · show ((Go.Sort.putRowK rcs 10 (Go.Sort.ahead w m) g 0 d).heap ++ os)[g]? = _
      rw [Array.getElem?_append_left (Array.getElem?_eq_some_iff.1 e0).1]
      exact e0
    · unfold Go.Sort.putCells
      rw [Array.size_mapIdx]
      exact hsz
    · have := put_cells (Go.Sort.flatK rcs 10 d) cur (by rw [hF, hcs]; omega)
      rw [hF] at this
      rw [show n * regS.m = n * 10 from rfl, this, ← flat_k, Array.toArray_toList]
theorem sort_below (w : World) (g n : Nat) (d : Array Gm.R) (os : Array Obj) (hg : g < w.heap.size) : Below g w (sortWorldK rcs 10 w g 0 n d os) := by
  have e : ∀ i, i ≠ g → (Go.Sort.putRowK rcs 10 (Go.Sort.ahead w n) g 0 d).heap[i]? = w.heap[i]? := fun i hi => by
    show (w.heap.modify g _)[i]? = w.heap[i]?
    rw [Array.getElem?_modify]
    rw [if_neg (fun h => hi h.symm)]
  have hz : (Go.Sort.putRowK rcs 10 (Go.Sort.ahead w n) g 0 d).heap.size = w.heap.size := by
    show (w.heap.modify g _).size = _
    rw [Array.size_modify]
  refine ⟨rfl, rfl, rfl, ?_, fun i hi => ?_⟩
  · show w.heap.size ≤ ((Go.Sort.putRowK rcs 10 (Go.Sort.ahead w n) g 0 d).heap ++ os).size
    rw [Array.size_append, hz]; omega
  · show ((Go.Sort.putRowK rcs 10 (Go.Sort.ahead w n) g 0 d).heap ++ os)[i]? = _
    rw [Array.getElem?_append_left (by rw [hz]; omega)]
    exact e i (by omega)
/-- What the sort leaves: the row in order; below the row's block nothing changes. -/
def SrtIs (w : World) (B n : Nat) (v : Value) (L : List Gm.R) (w' : World) : Prop := ARow regS 40 w' B v n (Sl.order L) ∧ Below B w w'
set_option maxHeartbeats 1000000 in
theorem ins_any (B g c n : Nat) (L : List Gm.R) (w : World) (hn2 : n ≤ 1000000) (h : ARow regS 40 w B (.slice (some ⟨g, 0, none⟩) n c) n L) :
    Calls Try.prog 49 #[.slice (some ⟨g, 0, none⟩) n c, .int .i64 0, .int .i64 n, .func (.func 26) #[] #[]] w fun e w' =>
      e = .returned (.tuple #[]) ∧ SrtIs w B n (.slice (some ⟨g, 0, none⟩) n c) L w' := by
  obtain ⟨hh, hg, hB⟩ := reg_holds h
  have hn := h.length
  have eg : ∀ args W, (callFunc 26 args).run Try.prog W = .ok (.enter 26 args) W := enters_of Try.func26 (by kernel_rfl) rfl
  have hs : L.toArray.size = n := by rw [List.size_toArray]; exact hn
  have hcon := AnyQ.insertionSortCmpFunc Try.insA 10 Try.isAgg40 Try.sizeOf40 rcs (fun _ => rfl) regS.one cmpR 26 #[] g 0 c 0 L.toArray.size L.toArray w eg (fun _ _ _ _ x y => order_clo x y _) hh hg (Nat.zero_le _) (Nat.le_refl _) (by omega)
  rw [lt_reg] at hcon
  have hsz := Sl.sort_size L.toArray
  have hor := Sl.sort_order L.toArray
  generalize Go.Sort.insertionSort Sl.lt L.toArray 0 L.toArray.size = d at *
  rw [hs] at hcon hsz
  change Calls Try.prog 49 _ _ _ at hcon
  refine hcon.mono ?_
  rintro e w' ⟨rfl, m, os, rfl⟩
  have hr := row_sorted (m := m) (os := os) h hsz
  rw [hor] at hr
  exact ⟨rfl, hr, (sort_below w g m d os hg).mono hB⟩
set_option maxHeartbeats 1000000 in
theorem ins_none (A : Option Addr) (n c : Nat) (f : Value) (w : World) : Calls Try.prog 49 #[.slice A n c, .int .i64 0, .int .i64 0, f] w fun e w' => e = .returned (.tuple #[]) ∧ w' = w := by
  go_enter Try.func49, Try.ntmps49
  go_wp2_with fail
  go_loopw [8] (fun iv wr => iv = .int .i64 1 ∧ wr = w) (fun _ _ => 0)
  case atStart => exact ⟨rfl, rfl⟩
  case round =>
    obtain ⟨rfl, rfl⟩ := hrel
    go_wp2_with fail
    go_end0
    exact ⟨rfl, rfl⟩
set_option maxHeartbeats 1000000 in
theorem stable_any (A : Option Addr) (n c : Nat) (w : World) (Q : World → Prop) (hn : n ≤ 15) (hi : Calls Try.prog 49 #[.slice A n c, .int .i64 0, .int .i64 n, .func (.func 26) #[] #[]] w fun e w' => e = .returned (.tuple #[]) ∧ Q w') :
    Calls Try.prog 41 #[.slice A n c, .int .i64 n, .func (.func 26) #[] #[]] w fun e w' => e = .returned (.tuple #[]) ∧ Q w' := by
  have d1 : decide ((20 : Int) ≤ (n : Int)) = false := decide_eq_false (by omega)
  have d2 : decide ((20 : Int) < (n : Int)) = false := decide_eq_false (by omega)
  have HI := Lib.hid hi
  clear hi
  go_enter Try.func41, Try.ntmps41
  go_wp2_with fail
  go_loopw [7, 8] (fun av bv wr => av = .int .i64 0 ∧ bv = .int .i64 20 ∧ wr = w) (fun _ _ _ => 0)
  case atStart => exact ⟨rfl, rfl, rfl⟩
  case round =>
    obtain ⟨rfl, rfl, rfl⟩ := hrel
    go_wp2_with fail
    refine HI.out.mono ?_
    rintro e w1 ⟨rfl, hq⟩
    go_wp2_with fail
    go_loopw [6, 7, 8, 9] (fun sv _ _ _ wq => sv = .int .i64 20 ∧ wq = w1) (fun _ _ _ _ _ => 0)
    case atStart => exact ⟨rfl, rfl⟩
    case round =>
      obtain ⟨rfl, rfl⟩ := hrel
      go_wp2_with fail
      go_end0
      exact ⟨rfl, hq⟩
set_option maxHeartbeats 1000000 in
theorem sort_any (A : Option Addr) (n c : Nat) (w : World) (Q : World → Prop) (hi : Calls Try.prog 41 #[.slice A n c, .int .i64 n, .func (.func 26) #[] #[]] w fun e w' => e = .returned (.tuple #[]) ∧ Q w') :
    Calls Try.prog 25 #[.slice A n c, .func (.func 26) #[] #[]] w fun e w' => e = .returned (.tuple #[]) ∧ Q w' := by
  have HI := Lib.hid hi
  clear hi
  go_enter Try.func25, Try.ntmps25
  go_wp2_with fail
  refine HI.out.mono ?_
  rintro e w1 ⟨rfl, hq⟩
  go_wp2_with fail
  go_end0
  exact ⟨rfl, hq⟩
/-- The sort at a row of the call's own. -/
theorem sorts_any (B n : Nat) (v : Value) (L : List Gm.R) (w : World) (hn : n ≤ 15) (h : ARow regS 40 w B v n L) :
    Calls Try.prog 25 #[v, .func (.func 26) #[] #[]] w fun e w' => e = .returned (.tuple #[]) ∧ SrtIs w B n v L w' := by
  rcases Nat.eq_zero_or_pos n with h0 | h0
  · subst h0
    obtain ⟨A, c, rfl, -⟩ := h.open_
    obtain rfl : L = [] := List.length_eq_zero_iff.1 h.length
    exact sort_any A 0 c w _ (stable_any A 0 c w _ (by omega) ((ins_none A 0 c _ w).mono fun e w' ⟨h1, h2⟩ => ⟨h1, by subst h2; exact ⟨h, Below.refl _ _⟩⟩))
  · obtain ⟨g, c, rfl, -, -⟩ := h.box h0
    exact sort_any _ n c w _ (stable_any _ n c w _ hn (ins_any B g c n L w (by omega) h))
end Go.Proofs.Ytmkilbogdenljaa
