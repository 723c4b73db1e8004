/-
  Plain mathematics of places: the slots of a layout, their first sectors, when two of them overlap, which are free. Nothing of the program.
-/
import Derived.Test.YtmkilbogdenljaaSbOne
namespace Go.Proofs.Ytmkilbogdenljaa
namespace Gm
open Sb
/-- Has the layout that slot? -/
def has (l : L) (s : Int) : Prop := form l ∧ 0 ≤ s ∧ s < l.reg
instance (l : L) (s : Int) : Decidable (has l s) := by unfold has; infer_instance
/-- The sector where a slot begins. -/
def spot (l : L) (s : Int) : Int := 74 + s * l.rs
def first (l : L) (s : Int) : Int := if has l s then spot l s else -1
def cap (l : L) : Int := if form l then (l.rs - 1) * 59 else 0
def fits (l : L) (n : Int) : Prop := form l ∧ spot l l.reg ≤ n
instance (l : L) (n : Int) : Decidable (fits l n) := by unfold fits; infer_instance
/-- Have the slot i of a and the slot k of b a sector in common? -/
def over (a : L) (i : Int) (b : L) (k : Int) : Prop := has a i ∧ has b k ∧ spot a i < spot b (k + 1) ∧ spot b k < spot a (i + 1)
instance (a : L) (i : Int) (b : L) (k : Int) : Decidable (over a i b k) := by unfold over; infer_instance
/-- A region: its header's numbers and its layout. -/
structure R where
  ver : Int
  slot : Int
  lay : Int
  seq : Int
  tail : Int
  now : Int
  l : L
def R0 : R := ⟨0, 0, 0, 0, 0, 0, L0⟩
def taken (l : L) (s : Int) (live : List R) : Bool := live.any fun r => decide (over l s r.l r.slot)
/-- The free ones of the first n slots. -/
def freeTo (t : L) (live : List R) (n : Nat) : List Nat := (List.range n).filter fun s => !taken t (s : Int) live
def free (t : L) (live : List R) : List Nat := if form t then freeTo t live t.reg.toNat else []
theorem form_nums {l : L} (h : form l) : 2 ≤ l.rs ∧ l.rs ≤ 2048 ∧ 4 ≤ l.reg ∧ l.reg ≤ 16 := by
  obtain ⟨-, -, h3, h4⟩ := h
  have := pw_le h3
  exact ⟨this.1, this.2, h4.1, h4.2⟩
theorem prod_small {s r : Int} (hs : 0 ≤ s) (hs2 : s ≤ 16) (hr : 2 ≤ r) (hr2 : r ≤ 2048) : 0 ≤ s * r ∧ s * r ≤ 32768 := by
  have h1 : s * r ≤ 16 * r := Int.mul_le_mul_of_nonneg_right hs2 (by omega)
  have h2 : 0 ≤ s * r := Int.mul_nonneg hs (by omega)
  omega
theorem spot_small {l : L} (h : form l) {s : Int} (h0 : 0 ≤ s) (h1 : s ≤ l.reg) : 0 ≤ s * l.rs ∧ s * l.rs ≤ 32768 := by
  obtain ⟨a, b, c, d⟩ := form_nums h
  exact prod_small h0 (by omega) a b
theorem spot_next (l : L) (s : Int) : spot l (s + 1) = spot l s + l.rs := by
  unfold spot; rw [Int.add_mul, Int.one_mul]; omega
theorem over_comm (a : L) (i : Int) (b : L) (k : Int) : over a i b k ↔ over b k a i := by
  unfold over
  constructor <;> rintro ⟨h1, h2, h3, h4⟩ <;> exact ⟨h2, h1, h4, h3⟩
theorem spot_lt {l : L} (h : form l) {i k : Int} : spot l i < spot l k ↔ i < k := by
  obtain ⟨a, -⟩ := form_nums h
  unfold spot
  constructor
  · intro h1
    refine Int.not_le.1 fun h2 => ?_
    have := Int.mul_le_mul_of_nonneg_right h2 (show 0 ≤ l.rs by omega)
    omega
  · intro h1
    have := Int.mul_lt_mul_of_pos_right h1 (show 0 < l.rs by omega)
    omega
theorem over_self (l : L) (i k : Int) : over l i l k ↔ has l i ∧ has l k ∧ i = k := by
  unfold over
  constructor
  · rintro ⟨h1, h2, h3, h4⟩
    have h5 := (spot_lt h1.1).1 h3
    have h6 := (spot_lt h1.1).1 h4
    exact ⟨h1, h2, by omega⟩
  · rintro ⟨h1, h2, rfl⟩
    exact ⟨h1, h2, (spot_lt h1.1).2 (by omega), (spot_lt h1.1).2 (by omega)⟩
/-- The reference's form: the ends of the two lists of sectors. -/
theorem over_ends (a : L) (i : Int) (b : L) (k : Int) : over a i b k ↔ has a i ∧ has b k ∧ spot a i ≤ spot b k + b.rs - 1 ∧ spot b k ≤ spot a i + a.rs - 1 := by
  unfold over
  rw [spot_next, spot_next]
  constructor <;> rintro ⟨h1, h2, h3, h4⟩ <;> exact ⟨h1, h2, by omega, by omega⟩
theorem over_half {l h : L} (hl : form l) (hh : form h) (hr : l.rs = 2 * h.rs) (hg : h.reg = 16) {i k : Int} (hi : 0 ≤ i) (hi2 : i < l.reg) (hk : 0 ≤ k) (hk2 : k < 16) : over l i h k ↔ k = 2 * i ∨ k = 2 * i + 1 := by
  have e1 : spot l i = spot h (2 * i) := by unfold spot; rw [hr, ← Int.mul_assoc, Int.mul_comm i 2]
  have e2 : spot l (i + 1) = spot h (2 * i + 2) := by unfold spot; rw [hr, ← Int.mul_assoc, show (i + 1) * 2 = 2 * i + 2 by omega]
  unfold over
  rw [e1, e2, spot_lt hh, spot_lt hh]
  constructor
  · rintro ⟨-, -, h1, h2⟩; omega
  · intro h1; exact ⟨⟨hl, hi, hi2⟩, ⟨hh, hk, by omega⟩, by omega, by omega⟩
theorem half_of {c : Int} (h1 : pw c) (h2 : pw (c.tdiv 2)) : c = 2 * c.tdiv 2 := by
  have := (pw_le h1).1
  unfold pw at h1
  rcases h1 with rfl | rfl | rfl | rfl | rfl | rfl | rfl | rfl | rfl | rfl | rfl <;> rfl
theorem freeTo_zero (t : L) (live : List R) : freeTo t live 0 = [] := rfl
theorem freeTo_next (t : L) (live : List R) (n : Nat) : freeTo t live (n + 1) = freeTo t live n ++ (if taken t (n : Int) live then [] else [n]) := by
  unfold freeTo
  rw [List.range_succ, List.filter_append]
  congr 1
  cases h : taken t (n : Int) live <;> simp [h]
theorem freeTo_free {t : L} (h : form t) {live : List R} {n : Nat} (hn : (n : Int) = t.reg) : freeTo t live n = free t live := by
  unfold free
  rw [if_pos h]
  congr 1
  omega
theorem freeTo_length (t : L) (live : List R) (n : Nat) : (freeTo t live n).length ≤ n := by
  unfold freeTo
  have := List.length_filter_le (fun s => !taken t ((s : Nat) : Int) live) (List.range n)
  rwa [List.length_range] at this
theorem free_nil {t : L} (h : form t) : (free t []).length = t.reg.toNat := by
  unfold free freeTo
  have h1 : (List.range t.reg.toNat).filter (fun s => !taken t ((s : Nat) : Int) []) = List.range t.reg.toNat := List.filter_eq_self.2 (fun _ _ => rfl)
  rw [if_pos h, h1, List.length_range]
theorem filter_ne_length (n i : Nat) (h : i < n) : ((List.range n).filter fun s => !decide (s = i)).length = n - 1 := by
  induction n with
  | zero => omega
  | succ n ih =>
    rw [List.range_succ, List.filter_append, List.length_append]
    by_cases e : n = i
    · subst e
      have h1 : (List.range n).filter (fun s => !decide (s = n)) = List.range n := List.filter_eq_self.2 fun a ha => by
        have := List.mem_range.1 ha
        simp; omega
      rw [h1, List.length_range]
      simp
    · rw [ih (by omega)]
      simp [e]
      omega
theorem free_one {t : L} (h : form t) {r : R} (hl : r.l = t) (h0 : 0 ≤ r.slot) (h1 : r.slot < t.reg) : (free t [r]).length = t.reg.toNat - 1 := by
  have e := filter_ne_length t.reg.toNat r.slot.toNat (by omega)
  rw [← e]
  unfold free freeTo
  rw [if_pos h]
  congr 1
  refine List.filter_congr fun s hs => ?_
  have hs2 := List.mem_range.1 hs
  unfold taken
  rw [List.any_cons, List.any_nil, Bool.or_false, hl]
  congr 1
  refine decide_eq_decide.2 ((over_self _ _ _).trans ⟨fun ⟨_, _, e⟩ => by omega, fun e => ⟨⟨h, by omega, by omega⟩, ⟨h, h0, h1⟩, by omega⟩⟩)
/-- The sectors of a slot, in order. -/
def secs (l : L) (s : Int) (n : Nat) : List Int := (List.range n).map fun (i : Nat) => spot l s + (i : Int)
theorem secs_next (l : L) (s : Int) (n : Nat) : secs l s (n + 1) = secs l s n ++ [spot l s + (n : Int)] := by
  unfold secs; rw [List.range_succ, List.map_append]; rfl
theorem secs_length (l : L) (s : Int) (n : Nat) : (secs l s n).length = n := by unfold secs; rw [List.length_map, List.length_range]
theorem secs_at (l : L) (s : Int) (n k : Nat) (h : k < n) : (secs l s n).getD k 0 = spot l s + (k : Int) := by
  unfold secs
  rw [List.getD_eq_getElem?_getD, List.getElem?_map, List.getElem?_range h]; rfl
/-- The sectors of a slot, if there is one. -/
def sectors (l : L) (s : Int) : List Int := if has l s then secs l s l.rs.toNat else []
theorem sectors_has {l : L} {s : Int} (h : has l s) : sectors l s = secs l s l.rs.toNat := if_pos h
theorem sectors_none {l : L} {s : Int} (h : ¬ has l s) : sectors l s = [] := if_neg h
theorem taken_nil (l : L) (s : Int) : taken l s [] = false := rfl
theorem taken_no {l : L} {s : Int} (h : ¬ has l s) (live : List R) : taken l s live = false := by
  unfold taken
  rw [List.any_eq_false]
  intro r _ e
  exact h (of_decide_eq_true e).1
/-- The hits up to the region k. -/
theorem taken_next (l : L) (s : Int) (live : List R) (k : Nat) (hk : k < live.length) : taken l s (live.take (k + 1)) = (taken l s (live.take k) || decide (over l s (live.getD k R0).l (live.getD k R0).slot)) := by
  unfold taken
  rw [List.take_add_one, List.any_append, List.getD_eq_getElem?_getD, List.getElem?_eq_getElem hk]
  simp
/-- What the reference collects: up to the number n of 16. -/
def refTo (t : L) (live : List R) (n : Nat) : List Nat := (List.range n).filter fun s => decide (has t (s : Int)) && !taken t (s : Int) live
theorem refTo_next (t : L) (live : List R) (n : Nat) : refTo t live (n + 1) = refTo t live n ++ (if decide (has t (n : Int)) && !taken t (n : Int) live then [n] else []) := by
  unfold refTo
  rw [List.range_succ, List.filter_append]
  congr 1
  cases h : decide (has t (n : Int)) && !taken t (n : Int) live <;> simp only [List.filter_cons, List.filter_nil, h] <;> rfl
theorem refTo_length (t : L) (live : List R) (n : Nat) : (refTo t live n).length ≤ n := by
  unfold refTo
  have := List.length_filter_le (fun s => decide (has t ((s : Nat) : Int)) && !taken t ((s : Nat) : Int) live) (List.range n)
  rwa [List.length_range] at this
theorem refTo_all (t : L) (live : List R) : refTo t live 16 = free t live := by
  unfold free
  by_cases h : form t
  · rw [if_pos h]
    obtain ⟨-, -, h3, h4⟩ := form_nums h
    have e : (16 : Nat) = t.reg.toNat + (16 - t.reg.toNat) := by omega
    unfold refTo freeTo
    rw [e, List.range_add, List.filter_append]
    have h1 : ((List.range (16 - t.reg.toNat)).map (t.reg.toNat + ·)).filter (fun s => decide (has t ((s : Nat) : Int)) && !taken t ((s : Nat) : Int) live) = [] := by
      rw [List.filter_eq_nil_iff]
      intro a ha
      obtain ⟨b, hb, rfl⟩ := List.mem_map.1 ha
      have : ¬ has t ((t.reg.toNat + b : Nat) : Int) := fun hh => by have := hh.2.2; omega
      rw [decide_eq_false this, Bool.false_and]
      exact Bool.false_ne_true
    rw [h1, List.append_nil]
    refine List.filter_congr fun s hs => ?_
    have hs2 := List.mem_range.1 hs
    have : has t (s : Int) := ⟨h, by omega, by omega⟩
    simp [this]
  · rw [if_neg h]
    unfold refTo
    rw [List.filter_eq_nil_iff]
    intro a _
    have : ¬ has t (a : Int) := fun hh => h hh.1
    simp [this]
end Gm
end Go.Proofs.Ytmkilbogdenljaa
