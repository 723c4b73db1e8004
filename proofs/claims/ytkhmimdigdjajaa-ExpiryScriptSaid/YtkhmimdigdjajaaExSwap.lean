/-
  The walk of swap; of before.
-/
import Derived.Test.YtkhmimdigdjajaaExWords
import Derived.BigRegion
import Derived.BigQuiet
set_option maxRecDepth 100000
namespace Go.Proofs.Ytkhmimdigdjajaa
open Go.RowKit Go.Maps
theorem nd3_cells {w : World} {g : Nat} {a b c : Value} {t : TypeId} (hg : w.heap[g]? = some (.cells #[a, b, c] t (0, 0))) : w.cell? ⟨g, 0, none⟩ = some a ∧ w.cell? ⟨g, 1, none⟩ = some b ∧ w.cell? ⟨g, 2, none⟩ = some c :=
  ⟨cell_of_row _ _ 0 _ _ _ hg, cell_of_row _ _ 1 _ _ _ hg, cell_of_row _ _ 2 _ _ _ hg⟩
theorem exbefore_any (a b : Nat) (x y : Ex.On) (i j : Int) (w : World) (ha : Hid (w.heap[a]? = some (.cells #[.string x.k, .int .i64 x.r, .int .i64 i] 58 (0, 0)))) (hb : Hid (w.heap[b]? = some (.cells #[.string y.k, .int .i64 y.r, .int .i64 j] 58 (0, 0)))) :
    Calls Try.prog 28 #[.pointer (some ⟨a, 0, none⟩), .pointer (some ⟨b, 0, none⟩)] w fun e w' => e = .returned (.bool (Ex.bf x y)) ∧ ∃ n m, w' = (w.drewN n).drewN m := by
  obtain ⟨kx, rx⟩ := x
  obtain ⟨ky, ry⟩ := y
  obtain ⟨a0, a1, a2⟩ := nd3_cells ha.out
  obtain ⟨b0, b1, b2⟩ := nd3_cells hb.out
  simp only at a0 a1 b0 b1
  have HA : Hid (∀ nq, (w.drewN nq).cell? ⟨a, 0, none⟩ = some (.string kx) ∧ (w.drewN nq).cell? ⟨a, 1, none⟩ = some (.int .i64 rx)) := fun _ => ⟨a0, a1⟩
  have HB : Hid (∀ nq, (w.drewN nq).cell? ⟨b, 0, none⟩ = some (.string ky) ∧ (w.drewN nq).cell? ⟨b, 1, none⟩ = some (.int .i64 ry)) := fun _ => ⟨b0, b1⟩
  by_cases hr : rx = ry
  · subst hr
    have hbe : (rx != rx) = false := by simp
    have HR : Hid (Ex.bf ⟨kx, rx⟩ ⟨ky, rx⟩ = Op.bytesLess kx.toList ky.toList) := by show _ = _; rw [Lib.toList_data, Lib.toList_data]; unfold Ex.bf; rw [if_pos rfl]; rfl
    clear ha hb
    go_enter Try.func28, Try.ntmps28
    go_wp2_with fail
    go_quiet (fail)
    have HN : Hid (∃ n, w.drewN nq = w.drewN n) := ⟨nq, rfl⟩
    obtain ⟨a0, a1⟩ := HA.out nq
    obtain ⟨b0, b1⟩ := HB.out nq
    clear HA HB
    generalize w.drewN nq = w1 at *
    go_wp2_with fail
    go_quiet (fail)
    go_wp2_with fail
    go_ret
    obtain ⟨n, e⟩ := HN.out
    rw [HR.out, e]
    exact ⟨rfl, n, _, rfl⟩
  · have hbe : (rx != ry) = true := by simp [hr]
    have HR : Hid (Ex.bf ⟨kx, rx⟩ ⟨ky, ry⟩ = decide (rx < ry)) := by show _ = _; unfold Ex.bf; rw [if_neg hr]
    clear ha hb hr
    go_enter Try.func28, Try.ntmps28
    go_wp2_with fail
    go_quiet (fail)
    have HN : Hid (∃ n, w.drewN nq = w.drewN n) := ⟨nq, rfl⟩
    obtain ⟨a0, a1⟩ := HA.out nq
    obtain ⟨b0, b1⟩ := HB.out nq
    clear HA HB
    generalize w.drewN nq = w1 at *
    go_wp2_with fail
    go_quiet (fail)
    go_wp2_with fail
    go_ret
    obtain ⟨n, e⟩ := HN.out
    rw [HR.out, e]
    exact ⟨rfl, n, _, rfl⟩
/-- Two cells of nodes, two cells of the row. -/
def swapA (w : World) (a b i j : Nat) : World := (w.setCell ⟨a, 2, none⟩ (.int .i64 (j : Int))).setCell ⟨b, 2, none⟩ (.int .i64 (i : Int))
def swapB (w : World) (g a b i j : Nat) : World := (w.setCell ⟨g, j, none⟩ (.pointer (some ⟨a, 0, none⟩))).setCell ⟨g, i, none⟩ (.pointer (some ⟨b, 0, none⟩))
theorem exswap_raw (q g a b i j n c : Nat) (mb : Option Nat) (x y : Ex.On) (w : World) (hc : n ≤ c) (hi : i < n) (hj : j < n)
    (hq : w.heap[q]? = some (.cells #[.slice (some ⟨g, 0, none⟩) n c, .map mb] 53 (0, 0)))
    (ha : w.heap[a]? = some (.cells #[.string x.k, .int .i64 x.r, .int .i64 (i : Int)] 58 (0, 0))) (hb : w.heap[b]? = some (.cells #[.string y.k, .int .i64 y.r, .int .i64 (j : Int)] 58 (0, 0))) (hab : a ≠ b)
    (hg : ∃ cur, cur.size = c ∧ w.heap[g]? = some (.cells cur 55 (0, 0))) :
    Calls Try.prog 22 #[.pointer (some ⟨q, 0, none⟩), .pointer (some ⟨a, 0, none⟩), .pointer (some ⟨b, 0, none⟩)] w fun e w' => e = .returned (.tuple #[]) ∧ w' = (swapB (swapA w a b i j).drew g a b i j).drew := by
  obtain ⟨cur, hcs, hg⟩ := hg
  obtain ⟨a0, a1, a2⟩ := nd3_cells ha
  obtain ⟨b0, b1, b2⟩ := nd3_cells hb
  have fa := frozen_of_row _ a 2 _ _ ha
  have fb := frozen_of_row _ b 2 _ _ hb
  have hqa : q ≠ a := fun e => by rw [e, ha] at hq; cases hq
  have hqb : q ≠ b := fun e => by rw [e, hb] at hq; cases hq
  have hga : g ≠ a := fun e => by rw [e, ha] at hg; cases hg
  have hgb : g ≠ b := fun e => by rw [e, hb] at hg; cases hg
  have HA : Hid ((swapA w a b i j).drew.heap[a]? = some (.cells #[.string x.k, .int .i64 x.r, .int .i64 (j : Int)] 58 (0, 0))) := set_past (set_at (cs := [_, _, _]) ha 2 _) hab 2 _
  have HB : Hid ((swapA w a b i j).drew.heap[b]? = some (.cells #[.string y.k, .int .i64 y.r, .int .i64 (i : Int)] 58 (0, 0))) := set_at (cs := [_, _, _]) (set_past hb (fun e => hab e.symm) 2 _) 2 _
  have HQ : Hid ((swapA w a b i j).drew.heap[q]? = some (.cells #[.slice (some ⟨g, 0, none⟩) n c, .map mb] 53 (0, 0))) := set_past (set_past hq hqa 2 _) hqb 2 _
  have HG : Hid ((swapA w a b i j).drew.heap[g]? = some (.cells cur 55 (0, 0))) := set_past (set_past hg hga 2 _) hgb 2 _
  have HE : Hid ((swapA w a b i j).drew = (((w.setCell ⟨a, 2, none⟩ (.int .i64 (j : Int))).setCell ⟨b, 2, none⟩ (.int .i64 (i : Int))).drew)) := rfl
  clear ha hb hq hg a0 a1 b0 b1
  go_enter Try.func22, Try.ntmps22
  go_upto_region 1 with fail
  go_region
  rw [← HE.out]
  generalize hW : (swapA w a b i j).drew = w1 at *
  have HW := Lib.hid hW
  obtain ⟨-, -, c2⟩ := nd3_cells HA.out
  obtain ⟨-, -, d2⟩ := nd3_cells HB.out
  obtain ⟨q0, q1⟩ := two_cells_at HQ.out
  have fg : ∀ k, w1.frozen? ⟨g, k, none⟩ = false := fun k => frozen_of_row _ g k _ _ HG.out
  have fi := fg i
  have fj := fg j
  have ci : w1.cell? ⟨g, i, none⟩ = some cur[i] := (cell_of_row _ g i _ _ _ HG.out).trans (Array.getElem?_eq_getElem (by omega))
  have cj : w1.cell? ⟨g, j, none⟩ = some cur[j] := (cell_of_row _ g j _ _ _ HG.out).trans (Array.getElem?_eq_getElem (by omega))
  have hs2 : (w1.setCell ⟨g, j, none⟩ (.pointer (some ⟨a, 0, none⟩))).heap[g]? = some (.cells (cur.toList.set j (.pointer (some ⟨a, 0, none⟩))).toArray 55 (0, 0)) := set_at (cs := cur.toList) (by simpa using HG.out) j _
  obtain ⟨ui, di⟩ : ∃ u, (w1.setCell ⟨g, j, none⟩ (.pointer (some ⟨a, 0, none⟩))).cell? ⟨g, i, none⟩ = some u := ⟨_, (cell_of_row _ g i _ _ _ hs2).trans (by rw [List.getElem?_toArray]; exact List.getElem?_eq_getElem (by rw [List.length_set, Array.length_toList]; omega))⟩
  have gi : (w1.setCell ⟨g, j, none⟩ (.pointer (some ⟨a, 0, none⟩))).frozen? ⟨g, i, none⟩ = false := frozen_of_row _ g i _ _ hs2
  clear hs2
  generalize cur[i] = vi at ci
  generalize cur[j] = vj at cj
  clear fg hW a2 b2 fa fb HE
  go_wp2_with fail
  go_region
  go_wp2_with fail
  go_end0
  rw [HW.out]
  exact ⟨rfl, rfl⟩
theorem exswap_self (q g a i n c : Nat) (mb : Option Nat) (x : Ex.On) (w : World) (hc : n ≤ c) (hi : i < n)
    (hq : w.heap[q]? = some (.cells #[.slice (some ⟨g, 0, none⟩) n c, .map mb] 53 (0, 0)))
    (ha : w.heap[a]? = some (.cells #[.string x.k, .int .i64 x.r, .int .i64 (i : Int)] 58 (0, 0)))
    (hg : ∃ cur, cur.size = c ∧ w.heap[g]? = some (.cells cur 55 (0, 0))) :
    Calls Try.prog 22 #[.pointer (some ⟨q, 0, none⟩), .pointer (some ⟨a, 0, none⟩), .pointer (some ⟨a, 0, none⟩)] w fun e w' => e = .returned (.tuple #[]) ∧ w' = (swapB (swapA w a a i i).drew g a a i i).drew := by
  obtain ⟨cur, hcs, hg⟩ := hg
  obtain ⟨a0, a1, a2⟩ := nd3_cells ha
  have fa := frozen_of_row _ a 2 _ _ ha
  have hqa : q ≠ a := fun e => by rw [e, ha] at hq; cases hq
  have hga : g ≠ a := fun e => by rw [e, ha] at hg; cases hg
  have HA : Hid ((swapA w a a i i).drew.heap[a]? = some (.cells #[.string x.k, .int .i64 x.r, .int .i64 (i : Int)] 58 (0, 0))) := set_at (cs := [_, _, _]) (set_at (cs := [_, _, _]) ha 2 _) 2 _
  have HQ : Hid ((swapA w a a i i).drew.heap[q]? = some (.cells #[.slice (some ⟨g, 0, none⟩) n c, .map mb] 53 (0, 0))) := set_past (set_past hq hqa 2 _) hqa 2 _
  have HG : Hid ((swapA w a a i i).drew.heap[g]? = some (.cells cur 55 (0, 0))) := set_past (set_past hg hga 2 _) hga 2 _
  have HE : Hid ((swapA w a a i i).drew = (((w.setCell ⟨a, 2, none⟩ (.int .i64 (i : Int))).setCell ⟨a, 2, none⟩ (.int .i64 (i : Int))).drew)) := rfl
  clear ha hq hg a0 a1
  go_enter Try.func22, Try.ntmps22
  go_upto_region 1 with fail
  go_region
  rw [← HE.out]
  generalize hW : (swapA w a a i i).drew = w1 at *
  have HW := Lib.hid hW
  obtain ⟨-, -, c2⟩ := nd3_cells HA.out
  obtain ⟨q0, q1⟩ := two_cells_at HQ.out
  have fg : ∀ k, w1.frozen? ⟨g, k, none⟩ = false := fun k => frozen_of_row _ g k _ _ HG.out
  have fi := fg i
  have ci : w1.cell? ⟨g, i, none⟩ = some cur[i] := (cell_of_row _ g i _ _ _ HG.out).trans (Array.getElem?_eq_getElem (by omega))
  have hs2 : (w1.setCell ⟨g, i, none⟩ (.pointer (some ⟨a, 0, none⟩))).heap[g]? = some (.cells (cur.toList.set i (.pointer (some ⟨a, 0, none⟩))).toArray 55 (0, 0)) := set_at (cs := cur.toList) (by simpa using HG.out) i _
  obtain ⟨ui, di⟩ : ∃ u, (w1.setCell ⟨g, i, none⟩ (.pointer (some ⟨a, 0, none⟩))).cell? ⟨g, i, none⟩ = some u := ⟨_, (cell_of_row _ g i _ _ _ hs2).trans (by rw [List.getElem?_toArray]; exact List.getElem?_eq_getElem (by rw [List.length_set, Array.length_toList]; omega))⟩
  have gi : (w1.setCell ⟨g, i, none⟩ (.pointer (some ⟨a, 0, none⟩))).frozen? ⟨g, i, none⟩ = false := frozen_of_row _ g i _ _ hs2
  clear hs2
  generalize cur[i] = vi at ci
  clear fg hW a2 fa HE
  go_wp2_with fail
  go_region
  go_wp2_with fail
  go_end0
  rw [HW.out]
  exact ⟨rfl, rfl⟩
/-- Two nodes change places. -/
def Swapped (S : Nat → Prop) (q : Nat) (v : Value) (mb : Option Nat) (h' : List Ex.Nd) (w : World) (e : Ending) (w' : World) : Prop :=
  e = .returned (.tuple #[]) ∧ Kept S w w' ∧ Same w w' ∧ HpIn w' S q v mb h'
theorem HpIn.place {w : World} {S : Nat → Prop} {q : Nat} {v : Value} {mb : Option Nat} {h : List Ex.Nd} (H : HpIn w S q v mb h) {i j : Nat} (hi : i < h.length) (hj : j < h.length) (e : (Ex.nd h i).b = (Ex.nd h j).b) : i = j := by
  have h1 := (H.node i hi).2
  rw [e, (H.node j hj).2] at h1
  have h2 : ndc (Ex.nd h j) j = ndc (Ex.nd h i) i := by injection (Option.some.inj h1)
  unfold ndc at h2
  have h3 := congrArg (fun a => a[2]?) h2
  simp at h3
  omega
theorem ndp_nd (h : List Ex.Nd) (i : Nat) (hi : i < h.length) : (h.map ndp)[i]? = some (ndp (Ex.nd h i)) := by
  rw [List.getElem?_map, List.getElem?_eq_getElem hi, Ex.nd_in hi]; rfl
set_option maxHeartbeats 2000000 in
theorem exswap_any (q i j : Nat) (v : Value) (mb : Option Nat) (h : List Ex.Nd) (S : Nat → Prop) (w : World) (hi : i < h.length) (hj : j < h.length) (H : HpIn w S q v mb h) :
    Calls Try.prog 22 #[.pointer (some ⟨q, 0, none⟩), ndp (Ex.nd h i), ndp (Ex.nd h j)] w (Swapped S q v mb (Ex.sw h i j) w) := by
  obtain ⟨g, c, rfl, hnc, -, hSg, -, -, -⟩ := H.rowAt (by omega)
  have hrow := H.row
  have hgc : ∃ cur, cur.size = c ∧ w.heap[g]? = some (.cells cur 55 (0, 0)) := by
    rcases hrow.1.2 with ⟨e, -⟩ | ⟨g', cap, cur, e, -, hg, -, -, hz, -⟩
    · cases e
    · injection e with e1 _ e3
      injection e1 with e1
      injection e1 with e1
      subst e1; subst e3
      exact ⟨cur, by omega, hg⟩
  obtain ⟨cur, hcs, hg⟩ := hgc
  obtain ⟨hSa, ha⟩ := H.node i hi
  obtain ⟨hSb, hb⟩ := H.node j hj
  have hga : g ≠ (Ex.nd h i).b := fun e => by rw [e, ha] at hg; cases hg
  have hgb : g ≠ (Ex.nd h j).b := fun e => by rw [e, hb] at hg; cases hg
  have hqg : q ≠ g := fun e => by have := H.box; rw [e, hg] at this; cases this
  have hqa : q ≠ (Ex.nd h i).b := fun e => by have := H.box; rw [e, ha] at this; cases this
  have hqb : q ≠ (Ex.nd h j).b := fun e => by have := H.box; rw [e, hb] at this; cases this
  have hgk : ∀ k, k < h.length → g ≠ (Ex.nd h k).b := fun k hk e => by rw [e, (H.node k hk).2] at hg; cases hg
  by_cases hij : i = j
  · subst hij
    refine (exswap_self q g (Ex.nd h i).b i h.length c mb (Ex.nd h i).o w hnc hi H.box ha ⟨cur, hcs, hg⟩).mono ?_
    rintro e w' ⟨rfl, rfl⟩
    have hsw : ∀ k, Ex.nd (Ex.sw h i i) k = Ex.nd h k := fun k => by
      rw [Ex.sw_nd hi hi]
      split
      · rename_i e; rw [e]
      · rfl
    have hsl : Ex.sw h i i = h := list_ext_getD Ex.Nd0 (Ex.sw_length _ _ _) fun k _ => hsw k
    rw [hsl]
    have hK : Kept S w (swapB (swapA w (Ex.nd h i).b (Ex.nd h i).b i i).drew g (Ex.nd h i).b (Ex.nd h i).b i i).drew := kept_drew' (((kept_drew' ((Kept.setCell _ ⟨_, 2, none⟩ _ hSa).trans (Kept.setCell _ ⟨_, 2, none⟩ _ hSa))).trans (Kept.setCell _ ⟨g, i, none⟩ _ hSg)).trans (Kept.setCell _ ⟨g, i, none⟩ _ hSg))
    have hg1 : (swapA w (Ex.nd h i).b (Ex.nd h i).b i i).drew.heap[g]? = some (.cells cur 55 (0, 0)) := set_past (set_past hg hga 2 _) hga 2 _
    have hSm : Same w (swapB (swapA w (Ex.nd h i).b (Ex.nd h i).b i i).drew g (Ex.nd h i).b (Ex.nd h i).b i i).drew := (((((Same.setCell w _ 2 _ (.inl (by decide))).trans (Same.setCell _ _ 2 _ (.inl (by decide)))).trans (Same.drew _)).trans (Same.setCell _ g i _ (.inr ⟨_, _, hg1, by decide⟩))).trans (Same.setCell _ g i _ (.inr ⟨_, _, set_at (cs := cur.toList) (by rw [Array.toArray_toList]; exact hg1) i _, by decide⟩))).trans (Same.drew _)
    refine ⟨rfl, hK, hSm, H.sq, ?_, ?_, fun k hk => ⟨(H.node k hk).1, ?_⟩⟩
    · exact set_past (set_past (set_past (set_past H.box hqa 2 _) hqa 2 _) hqg i _) hqg i _
    · have h1 : SRow S 55 1 (swapA w (Ex.nd h i).b (Ex.nd h i).b i i).drew (.slice (some ⟨g, 0, none⟩) h.length c) h.length (h.map ndp) := ⟨ownsRow_block hrow.1 fun k e => by
        obtain rfl : g = k := Option.some.inj e
        exact (set_past (set_past rfl hga 2 _) hga 2 _), hrow.2⟩
      have h2 := srow_set (srow_set h1 i (ndp (Ex.nd h i))) i (ndp (Ex.nd h i))
      have e : ((h.map ndp).set i (ndp (Ex.nd h i))).set i (ndp (Ex.nd h i)) = h.map ndp := by
        rw [List.set_set]
        apply List.ext_getElem?
        intro k
        rw [List.getElem?_set]
        split
        · rename_i e; subst e; rw [List.length_map, if_pos hi, ndp_nd h i hi]
        · rfl
      rw [e] at h2
      exact h2
    · by_cases hki : k = i
      · subst hki
        exact set_past (set_past (set_at (cs := [_, _, _]) (set_at (cs := [_, _, _]) ha 2 _) 2 _) (Ne.symm hga) k _) (Ne.symm hga) k _
      · have hne : (Ex.nd h k).b ≠ (Ex.nd h i).b := fun e => hki (H.place hk hi e)
        exact set_past (set_past (set_past (set_past (H.node k hk).2 hne 2 _) hne 2 _) (Ne.symm (hgk k hk)) i _) (Ne.symm (hgk k hk)) i _
  · have hab : (Ex.nd h i).b ≠ (Ex.nd h j).b := fun e => hij (H.place hi hj e)
    refine (exswap_raw q g (Ex.nd h i).b (Ex.nd h j).b i j h.length c mb (Ex.nd h i).o (Ex.nd h j).o w hnc hi hj H.box ha hb hab ⟨cur, hcs, hg⟩).mono ?_
    rintro e w' ⟨rfl, rfl⟩
    have hK : Kept S w (swapB (swapA w (Ex.nd h i).b (Ex.nd h j).b i j).drew g (Ex.nd h i).b (Ex.nd h j).b i j).drew := kept_drew' (((kept_drew' ((Kept.setCell _ ⟨_, 2, none⟩ _ hSa).trans (Kept.setCell _ ⟨_, 2, none⟩ _ hSb))).trans (Kept.setCell _ ⟨g, j, none⟩ _ hSg)).trans (Kept.setCell _ ⟨g, i, none⟩ _ hSg))
    have hg1 : (swapA w (Ex.nd h i).b (Ex.nd h j).b i j).drew.heap[g]? = some (.cells cur 55 (0, 0)) := set_past (set_past hg hga 2 _) hgb 2 _
    have hSm : Same w (swapB (swapA w (Ex.nd h i).b (Ex.nd h j).b i j).drew g (Ex.nd h i).b (Ex.nd h j).b i j).drew := (((((Same.setCell w _ 2 _ (.inl (by decide))).trans (Same.setCell _ _ 2 _ (.inl (by decide)))).trans (Same.drew _)).trans (Same.setCell _ g j _ (.inr ⟨_, _, hg1, by decide⟩))).trans (Same.setCell _ g i _ (.inr ⟨_, _, set_at (cs := cur.toList) (by rw [Array.toArray_toList]; exact hg1) j _, by decide⟩))).trans (Same.drew _)
    refine ⟨rfl, hK, hSm, H.sq, ?_, ?_, fun k hk => ?_⟩
    · exact set_past (set_past (set_past (set_past H.box hqa 2 _) hqb 2 _) hqg j _) hqg i _
    · have h1 : SRow S 55 1 (swapA w (Ex.nd h i).b (Ex.nd h j).b i j).drew (.slice (some ⟨g, 0, none⟩) h.length c) h.length (h.map ndp) := ⟨ownsRow_block hrow.1 fun k e => by
        obtain rfl : g = k := Option.some.inj e
        exact (set_past (set_past rfl hga 2 _) hgb 2 _), hrow.2⟩
      have h2 := srow_set (srow_set h1 j (ndp (Ex.nd h i))) i (ndp (Ex.nd h j))
      have e : ((h.map ndp).set j (ndp (Ex.nd h i))).set i (ndp (Ex.nd h j)) = (Ex.sw h i j).map ndp := by
        unfold Ex.sw
        rw [List.set_comm _ _ (Ne.symm hij), List.map_set, List.map_set]
      rw [e] at h2
      rw [Ex.sw_length]
      exact h2
    · rw [Ex.sw_length] at hk
      rw [Ex.sw_nd hi hj]
      by_cases hkj : k = j
      · subst hkj
        rw [if_pos rfl]
        exact ⟨hSa, set_past (set_past (set_past (set_at (cs := [_, _, _]) ha 2 _) hab 2 _) (Ne.symm hga) k _) (Ne.symm hga) i _⟩
      · rw [if_neg hkj]
        by_cases hki : k = i
        · subst hki
          rw [if_pos rfl]
          exact ⟨hSb, set_past (set_past (set_at (cs := [_, _, _]) (set_past hb (Ne.symm hab) 2 _) 2 _) (Ne.symm hgb) j _) (Ne.symm hgb) k _⟩
        · rw [if_neg hki]
          have hne : (Ex.nd h k).b ≠ (Ex.nd h i).b := fun e => hki (H.place hk hi e)
          have hne2 : (Ex.nd h k).b ≠ (Ex.nd h j).b := fun e => hkj (H.place hk hj e)
          exact ⟨(H.node k hk).1, set_past (set_past (set_past (set_past (H.node k hk).2 hne 2 _) hne2 2 _) (Ne.symm (hgk k hk)) j _) (Ne.symm (hgk k hk)) i _⟩
end Go.Proofs.Ytkhmimdigdjajaa
