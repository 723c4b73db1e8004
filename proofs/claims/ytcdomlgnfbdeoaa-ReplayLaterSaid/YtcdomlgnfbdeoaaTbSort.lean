/-
  Pairs in a row, and what slices.SortFunc makes of them.
-/
import Derived.Test.YtcdomlgnfbdeoaaTbLaw
import Derived.Test.YtcdomlgnfbdeoaaTbPr
import Derived.Shelf.SlSortCmp.WholeK
set_option maxRecDepth 100000
namespace Go.Proofs.Ytcdomlgnfbdeoaa
open Go.RowKit
def cmpPr (x y : Tb.Pr) : Int := Lib.compareBytes x.1.data.toList y.1.data.toList
theorem lt_pr (x y : Tb.Pr) : ltOf cmpPr x y = Tb.kl x.1 y.1 := by
  unfold ltOf cmpPr
  cases h : Tb.kl x.1 y.1 with
  | true => exact decide_eq_true ((Tb.cmp_bl _ _).2 h)
  | false =>
    refine decide_eq_false fun h2 => ?_
    have := (Tb.cmp_bl _ _).1 h2
    unfold Tb.kl at h
    rw [h] at this
    cases this
theorem swo_pr : Go.Sort.SWO (ltOf cmpPr) where
  irrefl x := by rw [lt_pr]; exact Tb.kl_irrefl _
  trans x y z h1 h2 := by rw [lt_pr] at *; exact Tb.kl_trans h1 h2
  ntrans x y z h1 h2 := by
    rw [lt_pr] at *
    cases h : Tb.kl x.1 z.1 with
    | false => rfl
    | true =>
      cases h3 : Tb.kl y.1 x.1 with
      | true => rw [Tb.kl_trans h3 h] at h2; cases h2
      | false => rw [Tb.kl_tri h1 h3, h2] at h; cases h
set_option maxHeartbeats 1000000 in
theorem pairs_clo (x y : Tb.Pr) (W : World) : Calls Try.prog 26 #[.agg (prc x).toArray, .agg (prc y).toArray] W fun e w' => e = .returned (.int .i64 (cmpPr x y)) ∧ ∃ q os', w' = Go.Sort.grow (W.drewN q) os' := by
  have hcon : ∀ W', Calls Try.prog 27 #[.string x.1, .string y.1] W' fun e w' => e = .returned (.int .i64 (cmpPr x y)) ∧ w' = W' := fun W' => Try.scompare_laid x.1 y.1 W'
  generalize cmpPr x y = r at hcon ⊢
  obtain ⟨xk, ⟨x0, x1, x2, x3, x4⟩⟩ := x
  obtain ⟨yk, ⟨y0, y1, y2, y3, y4⟩⟩ := y
  simp only at hcon
  change Calls Try.prog _ #[.agg #[.string xk, .int .i64 x0, .int .i64 x1, .int .i64 x2, .int .i64 x3, .bool x4], .agg #[.string yk, .int .i64 y0, .int .i64 y1, .int .i64 y2, .int .i64 y3, .bool y4]] W _
  go_enter Try.func26, Try.ntmps26
  go_wp2_with (go_at_call 27; refine (hcon _).mono ?_; rintro e w' ⟨rfl, rfl⟩)
  go_ret
  exact ⟨rfl, 0, _, by rw [Go.Sort.alloc_eq_grow, Go.Sort.alloc_eq_grow, Go.Sort.grow_grow]; rfl⟩
theorem sort_below (w : World) (g n : Nat) (d : Array Tb.Pr) (os : Array Obj) (hg : g < w.heap.size) : Below g w (sortWorldK prc 6 w g 0 n d os) := by
  have e : ∀ i, i ≠ g → (Go.Sort.putRowK prc 6 (Go.Sort.ahead w n) g 0 d).heap[i]? = w.heap[i]? := fun i hi => by
    show (w.heap.modify g _)[i]? = w.heap[i]?
    rw [Array.getElem?_modify]
    rw [if_neg (fun h => hi h.symm)]
  have hz : (Go.Sort.putRowK prc 6 (Go.Sort.ahead w n) g 0 d).heap.size = w.heap.size := by
    show (w.heap.modify g _).size = _
    rw [Array.size_modify]
  refine ⟨rfl, rfl, rfl, ?_, fun i hi => ?_⟩
  · show w.heap.size ≤ ((Go.Sort.putRowK prc 6 (Go.Sort.ahead w n) g 0 d).heap ++ os).size
    rw [Array.size_append, hz]; omega
  · show ((Go.Sort.putRowK prc 6 (Go.Sort.ahead w n) g 0 d).heap ++ os)[i]? = _
    rw [Array.getElem?_append_left (by rw [hz]; omega)]
    exact e i (by omega)
set_option maxHeartbeats 1000000 in
theorem psort_any (g cap : Nat) (L : List Tb.Pr) (w : World) (hL : L.length ≤ 1048576) (hh : Go.Sort.HoldsK prc 6 w g 0 L.toArray) (hg : g < w.heap.size) :
    Calls Try.prog 25 #[.slice (some ⟨g, 0, none⟩) L.length cap, .func (.func 26) #[] #[]] w fun e w' =>
      e = .returned (.tuple #[]) ∧ ∃ L' : List Tb.Pr, L'.Perm L ∧ (∀ i j (hi : i < L'.length) (hj : j < L'.length), i < j → Tb.kl L'[j].1 L'[i].1 = false) ∧ Go.Sort.HoldsK prc 6 w' g 0 L'.toArray ∧ Below g w w' := by
  have eg : ∀ args W, (callFunc 26 args).run Try.prog W = .ok (.enter 26 args) W := enters_of Try.func26 (by kernel_rfl) rfl
  have hcon := AnyQ.slices_SortFunc Try.sortfA 6 Try.isAgg38 Try.sizeOf38 prc (fun _ => rfl) prc_one cmpPr swo_pr 26 #[] g 0 cap L.toArray w eg (fun _ _ _ _ x y => pairs_clo x y _) hh hg (by rw [List.size_toArray]; omega)
  rw [List.size_toArray] at hcon
  change Calls Try.prog 25 _ _ _ at hcon
  refine hcon.mono ?_
  rintro e w' ⟨rfl, d', n, os, hp, hs, rfl⟩
  have hsz : d'.size = L.toArray.size := hp.1
  have hsz2 : d'.size = L.length := by rw [hsz, List.size_toArray]
  have hH : Go.Sort.HoldsK prc 6 (sortWorldK prc 6 w g 0 n d' os) g 0 d' := holdsK_sortWorldK_c prc 6 w g 0 L.toArray d' n os hh hg hsz
  have hperm : d'.toList.Perm L := by
    have h2 := hp.2.2
    have e1 : d'.extract 0 L.length = d' := by rw [← hsz2]; exact Array.extract_size
    have e2 : L.toArray.extract 0 L.length = L.toArray := by
      have h3 : L.toArray.extract 0 L.toArray.size = L.toArray := Array.extract_size
      rwa [List.size_toArray] at h3
    rw [e1, e2] at h2
    exact h2
  refine ⟨rfl, d'.toList, hperm, fun i j hi hj hij => ?_, by rw [Array.toArray_toList]; exact hH, sort_below w g n d' os hg⟩
  rw [Array.length_toList] at hi hj
  have := hs i j (Nat.zero_le _) hij (by rw [← hsz2]; exact hj)
  rw [lt_pr, getElem!_pos d' j hj, getElem!_pos d' i hi] at this
  exact this
end Go.Proofs.Ytcdomlgnfbdeoaa
