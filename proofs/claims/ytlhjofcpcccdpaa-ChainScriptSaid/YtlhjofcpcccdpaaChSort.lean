/-
  Items in a row, and what slices.SortFunc makes of them.
-/
import Derived.Test.YtlhjofcpcccdpaaChWords
import Derived.Test.YtlhjofcpcccdpaaSrt
import Derived.Shelf.SlSortCmp.WholeK
set_option maxRecDepth 100000
namespace Go.Proofs.Ytlhjofcpcccdpaa
open Go.RowKit
def Ch.It0 : Ch.It := (0, ⟨#[]⟩)
instance itInh : Inhabited Ch.It := ⟨Ch.It0⟩
/-- The cells of an item. -/
def itc (p : Ch.It) : List Value := [.int .i64 p.1, .string p.2]
theorem itc_one (p : Ch.It) : ∀ u ∈ itc p, u.oneCell' = true := fun u hu => by
  simp only [itc, List.mem_cons, List.not_mem_nil, or_false] at hu
  rcases hu with rfl | rfl <;> rfl
def itS : Shape Ch.It := ⟨itc, Ch.It0, 2, fun _ => rfl, by decide, itc_one⟩
def cmpZ (x y : Int) : Int := if x < y then -1 else if x > y then 1 else 0
def cmpIt (x y : Ch.It) : Int := cmpZ x.1 y.1
theorem lt_it (x y : Ch.It) : ltOf cmpIt x y = decide (x.1 < y.1) := by
  unfold ltOf cmpIt cmpZ
  by_cases h : x.1 < y.1
  · rw [if_pos h, decide_eq_true h]; rfl
  · rw [if_neg h, decide_eq_false h]
    split <;> rfl
theorem swo_it : Go.Sort.SWO (ltOf cmpIt) where
  irrefl x := by rw [lt_it]; exact decide_eq_false (Int.lt_irrefl _)
  trans x y z h1 h2 := by
    rw [lt_it] at *
    exact decide_eq_true (Int.lt_trans (of_decide_eq_true h1) (of_decide_eq_true h2))
  ntrans x y z h1 h2 := by
    rw [lt_it] at *
    have := of_decide_eq_false h1
    have := of_decide_eq_false h2
    exact decide_eq_false (by omega)
theorem nanz_any (x : Int) (w : World) : Calls Try.prog 28 #[.int .i64 x] w fun e w' => e = .returned (.bool false) ∧ w' = w := by
  have hx : (x != x) = false := by simp
  go_enter Try.func28, Try.ntmps28
  go_wp2_with fail
  go_ret
  exact ⟨rfl, rfl⟩
theorem cmpz_any (x y : Int) (w : World) : Calls Try.prog 22 #[.int .i64 x, .int .i64 y] w fun e w' => e = .returned (.int .i64 (cmpZ x y)) ∧ w' = w := by
  rcases Int.lt_trichotomy x y with h | rfl | h
  · have hr : cmpZ x y = -1 := by unfold cmpZ; rw [if_pos h]
    have hlt : decide (x < y) = true := decide_eq_true h
    rw [hr]
    clear hr h
    go_enter Try.func22, Try.ntmps22
    go_wp2_with (go_at_call 28; refine (nanz_any _ _).mono ?_; rintro e w' ⟨rfl, rfl⟩)
    go_ret
    exact ⟨rfl, rfl⟩
  · have hr : cmpZ x x = 0 := by unfold cmpZ; rw [if_neg (Int.lt_irrefl _), if_neg (Int.lt_irrefl _)]
    have hlt : decide (x < x) = false := decide_eq_false (Int.lt_irrefl _)
    have hgt : decide (x > x) = false := decide_eq_false (Int.lt_irrefl _)
    rw [hr]
    clear hr
    go_enter Try.func22, Try.ntmps22
    go_wp2_with (go_at_call 28; refine (nanz_any _ _).mono ?_; rintro e w' ⟨rfl, rfl⟩)
    go_ret
    exact ⟨rfl, rfl⟩
  · have hr : cmpZ x y = 1 := by unfold cmpZ; rw [if_neg (by omega), if_pos h]
    have hlt : decide (x < y) = false := decide_eq_false (by omega)
    have hgt : decide (x > y) = true := decide_eq_true h
    rw [hr]
    clear hr h
    go_enter Try.func22, Try.ntmps22
    go_wp2_with (go_at_call 28; refine (nanz_any _ _).mono ?_; rintro e w' ⟨rfl, rfl⟩)
    go_ret
    exact ⟨rfl, rfl⟩
set_option maxHeartbeats 1000000 in
theorem items_clo (x y : Ch.It) (W : World) : Calls Try.prog 21 #[.agg (itc x).toArray, .agg (itc y).toArray] W fun e w' => e = .returned (.int .i64 (cmpIt x y)) ∧ ∃ q os', w' = Go.Sort.grow (W.drewN q) os' := by
  have hcon : ∀ W', Calls Try.prog 22 #[.int .i64 x.1, .int .i64 y.1] W' fun e w' => e = .returned (.int .i64 (cmpIt x y)) ∧ w' = W' := fun W' => cmpz_any x.1 y.1 W'
  generalize cmpIt x y = r at hcon ⊢
  obtain ⟨x0, x1⟩ := x
  obtain ⟨y0, y1⟩ := y
  simp only at hcon
  change Calls Try.prog _ #[.agg #[.int .i64 x0, .string x1], .agg #[.int .i64 y0, .string y1]] W _
  go_enter Try.func21, Try.ntmps21
  go_wp2_with (go_at_call 22; refine (hcon _).mono ?_; rintro e w' ⟨rfl, rfl⟩)
  go_ret
  exact ⟨rfl, 0, _, by rw [Go.Sort.alloc_eq_grow, Go.Sort.alloc_eq_grow, Go.Sort.grow_grow]; rfl⟩
theorem it_below (w : World) (g n : Nat) (d : Array Ch.It) (os : Array Obj) (hg : g < w.heap.size) : Below g w (sortWorldK itc 2 w g 0 n d os) := by
  have e : ∀ i, i ≠ g → (Go.Sort.putRowK itc 2 (Go.Sort.ahead w n) g 0 d).heap[i]? = w.heap[i]? := fun i hi => by
    show (w.heap.modify g _)[i]? = w.heap[i]?
    rw [Array.getElem?_modify]
    rw [if_neg (fun h => hi h.symm)]
  have hz : (Go.Sort.putRowK itc 2 (Go.Sort.ahead w n) g 0 d).heap.size = w.heap.size := by
    show (w.heap.modify g _).size = _
    rw [Array.size_modify]
  refine ⟨rfl, rfl, rfl, ?_, fun i hi => ?_⟩
  · show w.heap.size ≤ ((Go.Sort.putRowK itc 2 (Go.Sort.ahead w n) g 0 d).heap ++ os).size
    rw [Array.size_append, hz]; omega
  · show ((Go.Sort.putRowK itc 2 (Go.Sort.ahead w n) g 0 d).heap ++ os)[i]? = _
    rw [Array.getElem?_append_left (by rw [hz]; omega)]
    exact e i (by omega)
set_option maxHeartbeats 1000000 in
theorem isort_any (g cap : Nat) (L : List Ch.It) (w : World) (hL : L.length ≤ 1048576) (hh : Go.Sort.HoldsK itc 2 w g 0 L.toArray) (hg : g < w.heap.size) :
    Calls Try.prog 20 #[.slice (some ⟨g, 0, none⟩) L.length cap, .func (.func 21) #[] #[]] w fun e w' =>
      e = .returned (.tuple #[]) ∧ ∃ L' : List Ch.It, L'.Perm L ∧ L'.Pairwise (fun p q => p.1 ≤ q.1) ∧ Go.Sort.HoldsK itc 2 w' g 0 L'.toArray ∧ Below g w w' := by
  have eg : ∀ args W, (callFunc 21 args).run Try.prog W = .ok (.enter 21 args) W := enters_of Try.func21 (by kernel_rfl) rfl
  have hcon := AnyQ.slices_SortFunc Try.sortfA 2 Try.isAgg45 Try.sizeOf45 itc (fun _ => rfl) itc_one cmpIt swo_it 21 #[] g 0 cap L.toArray w eg (fun _ _ _ _ x y => items_clo x y _) hh hg (by rw [List.size_toArray]; omega)
  rw [List.size_toArray] at hcon
  change Calls Try.prog 20 _ _ _ at hcon
  refine hcon.mono ?_
  rintro e w' ⟨rfl, d', n, os, hp, hs, rfl⟩
  have hsz : d'.size = L.toArray.size := hp.1
  have hsz2 : d'.size = L.length := by rw [hsz, List.size_toArray]
  have hH : Go.Sort.HoldsK itc 2 (sortWorldK itc 2 w g 0 n d' os) g 0 d' := holdsK_sortWorldK_c itc 2 w g 0 L.toArray d' n os hh hg hsz
  have hperm : d'.toList.Perm L := by
    have h2 := hp.2.2
    have e1 : d'.extract 0 L.length = d' := by rw [← hsz2]; exact Array.extract_size
    have e2 : L.toArray.extract 0 L.length = L.toArray := by
      have h3 : L.toArray.extract 0 L.toArray.size = L.toArray := Array.extract_size
      rwa [List.size_toArray] at h3
    rw [e1, e2] at h2
    exact h2
  refine ⟨rfl, d'.toList, hperm, List.pairwise_iff_getElem.2 fun i j hi hj hij => ?_, by rw [Array.toArray_toList]; exact hH, it_below w g n d' os hg⟩
  rw [Array.length_toList] at hi hj
  have := hs i j (Nat.zero_le _) hij (by rw [← hsz2]; exact hj)
  rw [lt_it, getElem!_pos d' j hj, getElem!_pos d' i hi] at this
  have := of_decide_eq_false this
  simp only [Array.getElem_toList]
  omega
/-- A row of items as the sort has it, and back. -/
theorem irow_holds {w : World} {B g c n : Nat} {L : List Ch.It} (hn : L.length = n) (h : w.ownsRow B 45 2 (.slice (some ⟨g, 0, none⟩) n c) n (itS.flat L)) : Go.Sort.HoldsK itc 2 w g 0 L.toArray ∧ g < w.heap.size ∧ n ≤ c ∧ c ≤ maxLen := by
  subst hn
  rcases h.2 with ⟨e1, -⟩ | ⟨g', cap, cur, e1, hb, hg, hnc, hcm, hsz, htk⟩
  · cases e1
  · injection e1 with e1 e2 e3
    injection e1 with e1
    injection e1 with e1
    subst e1 e3
    refine ⟨fun j hj => ?_, (Array.getElem?_eq_some_iff.1 hg).1, hnc, hcm⟩
    rw [Go.Sort.size_flatK, List.size_toArray] at hj
    have hj6 : j % 2 < 2 := Nat.mod_lt _ (by decide)
    have hjl : j / 2 < L.length := by omega
    have e2 := itS.flat_at L (j / 2) (j % 2) hjl hj6
    rw [show j / 2 * itS.m + j % 2 = j from by show j / 2 * 2 + j % 2 = j; omega] at e2
    have e4 : L.getD (j / 2) itS.z = L[j / 2] := by rw [List.getD_eq_getElem?_getD, List.getElem?_eq_getElem hjl]; rfl
    rw [e4] at e2
    have e5 : (Go.Sort.flatK itc 2 L.toArray)[j]! = (itc L[j / 2])[j % 2]'(show j % 2 < (itc L[j / 2]).length from hj6) := by
      rw [Go.Sort.get_flatK itc 2 L.toArray j (by rw [List.size_toArray]; exact hj), getElem!_pos L.toArray (j / 2) (by rw [List.size_toArray]; exact hjl)]
      exact getElem!_pos (itc L[j / 2]) (j % 2) (show j % 2 < (itc L[j / 2]).length from hj6)
    refine ⟨?_, by rw [Nat.zero_add]; exact frozen_of_row w g _ _ _ hg⟩
    have hc := h.cells (g := g) rfl j _ (e2.trans (List.getElem?_eq_getElem (show j % 2 < (itc L[j / 2]).length from hj6)))
    rw [arr_flat, Nat.zero_add] at hc
    rw [Nat.zero_add, e5]
    exact hc
theorem iholds_arr {w : World} {g lo B : Nat} {L : List Ch.It} (h : Go.Sort.HoldsK itc 2 w g 0 L.toArray) (h1 : lo ≤ g) (h2 : g < B) : Arr itS w lo B (some ⟨g, 0, none⟩) L := fun k hk => by
  refine ⟨_, rfl, h1, h2, fun j v e => ?_⟩
  have hj : j < 2 := by
    rcases Nat.lt_or_ge j 2 with h3 | h3
    · exact h3
    · rw [List.getElem?_eq_none (show (itS.cs (L.getD k itS.z)).length ≤ j from h3)] at e; cases e
  have hc := (h.cell (i := k) (c := j) (by rw [List.size_toArray]; exact hk) hj).1
  have e4 : L.getD k itS.z = L[k] := by rw [List.getD_eq_getElem?_getD, List.getElem?_eq_getElem hk]; rfl
  rw [e4] at e
  rw [getElem!_pos L.toArray k (by rw [List.size_toArray]; exact hk)] at hc
  have e5 : (itc L.toArray[k])[j]! = v := by
    have h6 : (itc L[k])[j]? = some v := e
    rw [getElem!_pos (itc L.toArray[k]) j hj]
    exact (List.getElem?_eq_some_iff.1 h6).2
  rw [e5, Nat.zero_add] at hc
  rw [arr_flat, Nat.zero_add]
  exact hc
theorem iholds_frozen {w : World} {g : Nat} {L : List Ch.It} (h : Go.Sort.HoldsK itc 2 w g 0 L.toArray) (j : Nat) (hj : j < L.length * 2) : w.frozen? ⟨g, j, none⟩ = false := by
  have := (h j (by rw [Go.Sort.size_flatK, List.size_toArray]; exact hj)).2
  rwa [Nat.zero_add] at this
end Go.Proofs.Ytlhjofcpcccdpaa
