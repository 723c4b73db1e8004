/-
  Regions sorted by insertion: plain mathematics. What comes out is the order from the oldest to the youngest. Nothing of the program.
-/
import Derived.Test.YtmkilbogdenljaaSlMath
import Derived.Shelf.GgSortFunc.RowK
namespace Go.Proofs.Ytmkilbogdenljaa
namespace Sl
open Sb Gm Go.Sort
instance regInh : Inhabited R := ⟨R0⟩
def lt (x y : R) : Bool := decide (x.seq < y.seq)
theorem swo : SWO lt where
  irrefl x := decide_eq_false (Int.lt_irrefl _)
  trans x y z h1 h2 := decide_eq_true (Int.lt_trans (of_decide_eq_true h1) (of_decide_eq_true h2))
  ntrans x y z h1 h2 := by
    have := of_decide_eq_false h1
    have := of_decide_eq_false h2
    exact decide_eq_false (by omega)
theorem two_of {l : List R} {j : Nat} (h : j + 1 < l.length) : l = l.take j ++ l[j] :: l[j + 1] :: l.drop (j + 2) := by
  conv => lhs; rw [← List.take_append_drop j l, List.drop_eq_getElem_cons (show j < l.length by omega), List.drop_eq_getElem_cons h]
theorem swp_list {d : Array R} {j : Nat} (h : j + 1 < d.size) : ∃ A B, d.toList = A ++ d[j]! :: d[j + 1]! :: B ∧ (swp d (j + 1) j).toList = A ++ d[j + 1]! :: d[j]! :: B := by
  have hl : j + 1 < d.toList.length := by rw [Array.length_toList]; exact h
  have e := two_of hl
  rw [Array.getElem_toList, Array.getElem_toList, ← getElem!_pos d j (by omega), ← getElem!_pos d (j + 1) h] at e
  generalize hx : d[j]! = x at e
  generalize hy : d[j + 1]! = y at e
  refine ⟨d.toList.take j, d.toList.drop (j + 2), e, ?_⟩
  have hA : (d.toList.take j).length = j := by rw [List.length_take]; omega
  unfold swp
  rw [hx, hy, Array.toList_setIfInBounds, Array.toList_setIfInBounds]
  generalize d.toList.take j = A at *
  generalize d.toList.drop (j + 2) = B at *
  rw [e]
  subst hA
  rw [List.set_append_right _ _ (by omega), show A.length + 1 - A.length = 1 by omega, List.set_append_right _ _ (Nat.le_refl _), Nat.sub_self]
  rfl
/-- Two neighbours of different numbers: the regions of one number keep their order. -/
theorem swp_same (s : Int) {d : Array R} {j : Nat} (h : j + 1 < d.size) (hlt : lt d[j + 1]! d[j]! = true) : (swp d (j + 1) j).toList.filter (fun x => decide (x.seq = s)) = d.toList.filter (fun x => decide (x.seq = s)) := by
  obtain ⟨A, B, e1, e2⟩ := swp_list h
  have hne := of_decide_eq_true hlt
  rw [e1, e2]
  generalize d[j]! = x at *
  generalize d[j + 1]! = y at *
  rw [List.filter_append, List.filter_append, List.filter_cons, List.filter_cons, List.filter_cons, List.filter_cons]
  by_cases h1 : x.seq = s
  · have h2 : ¬ y.seq = s := by omega
    simp [h1, h2]
  · simp [h1]
theorem inner_same (s : Int) (a : Nat) : ∀ (j : Nat) (d : Array R), j < d.size → (insInner lt a j d).size = d.size ∧ (insInner lt a j d).toList.filter (fun x => decide (x.seq = s)) = d.toList.filter (fun x => decide (x.seq = s))
  | 0, d, _ => ⟨rfl, rfl⟩
  | j + 1, d, h => by
    unfold insInner
    split
    · next hg =>
      rw [Bool.and_eq_true] at hg
      have hs : (swp d (j + 1) j).size = d.size := size_swp d (j + 1) j
      obtain ⟨h1, h2⟩ := inner_same s a j (swp d (j + 1) j) (by rw [hs]; omega)
      exact ⟨h1.trans hs, h2.trans (swp_same s h hg.2)⟩
    · exact ⟨rfl, rfl⟩
theorem outer_same (s : Int) (a b : Nat) : ∀ (k i : Nat) (d : Array R), b - i = k → b ≤ d.size → (insOuter lt a b i d).size = d.size ∧ (insOuter lt a b i d).toList.filter (fun x => decide (x.seq = s)) = d.toList.filter (fun x => decide (x.seq = s)) := by
  intro k
  induction k with
  | zero =>
    intro i d hk hb
    rw [insOuter_stop lt a b i d (by omega)]
    exact ⟨rfl, rfl⟩
  | succ k ih =>
    intro i d hk hb
    rw [insOuter_go lt a b i d (by omega)]
    obtain ⟨h1, h2⟩ := inner_same s a i d (by omega)
    obtain ⟨h3, h4⟩ := ih (i + 1) (insInner lt a i d) (by omega) (by rw [h1]; exact hb)
    exact ⟨h3.trans h1, h4.trans h2⟩
theorem sort_size (d : Array R) : (insertionSort lt d 0 d.size).size = d.size := (outer_same 0 0 d.size _ 1 d rfl (Nat.le_refl _)).1
theorem sort_order (d : Array R) : (insertionSort lt d 0 d.size).toList = order d.toList := by
  refine order_one ?_ fun s => (outer_same s 0 d.size _ 1 d rfl (Nat.le_refl _)).2
  have hs := (insertionSort_holds swo d 0 d.size (Nat.zero_le _) (Nat.le_refl _)).2
  have hz := sort_size d
  generalize insertionSort lt d 0 d.size = d' at *
  refine List.pairwise_iff_getElem.2 fun i j hi hj hij => ?_
  rw [Array.length_toList] at hi hj
  have := hs i j (Nat.zero_le _) hij (by omega)
  rw [getElem!_pos d' j hj, getElem!_pos d' i hi] at this
  have := of_decide_eq_false this
  simp only [Array.getElem_toList]
  omega
end Sl
end Go.Proofs.Ytmkilbogdenljaa
