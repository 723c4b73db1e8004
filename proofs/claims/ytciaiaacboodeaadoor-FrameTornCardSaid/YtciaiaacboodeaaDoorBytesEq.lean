/-
  The walks of bytes.Equal and bytes.HasPrefix, said of plain lists of bytes.
-/
import Derived.Test.YtciaiaacboodeaaDoorWords
import Derived.Test.YtciaiaacboodeaaDoorRows
import Derived.Laws.BytesArg
import Derived.Laws.BytesString
import Derived.Lib.Bytes
import Derived.WalkKit
import Derived.WalkSpells
import Derived.WalkLawsBesides
import Derived.Lib.Hide
namespace Go.Proofs.YtciaiaacboodeaaDoor
open Go.RowKit

/-- Bytes as a string. -/
def strOf (l : List Nat) : ByteArray := strOfNums (l.map Int.ofNat)
theorem conv_bytes (A : Option Addr) (B n c : Nat) (l : List Nat) (w : World) (hA : A = none → n = 0) (hl : l.length = n) (hb : Bs w B A l) :
    (convert 24 9 (.slice A n c)).run Tryd.prog w = .ok (.string (strOf l)) w := by
  rw [run_convert_bytes_string w 24 9 5 A n c Tryd.underlying24 Tryd.underlying5 Tryd.underlying9]
  cases A with
  | none =>
    obtain rfl := hA rfl
    obtain rfl := List.eq_nil_of_length_eq_zero hl
    simp [Conv.bytesToString]
    rfl
  | some ad =>
    have h := run_loadCells_list (P := Tryd.prog) (w := w) ad (vals l) hb.cells
    rw [vals_length, hl] at h
    have e : vals l = (l.map Int.ofNat).map (Value.int .u8) := by unfold vals; rw [List.map_map]; rfl
    rw [e] at h
    rw [run_bytesToString w ad n c (l.map Int.ofNat) h, foldl_push_bytes]
    simp [strOf, strOfNums, ByteArray.empty, ByteArray.emptyWithCapacity]
    rfl
theorem strOf_eq {a b : List Nat} (ha : ∀ x ∈ a, x < 256) (hb : ∀ x ∈ b, x < 256) : strOf a = strOf b ↔ a = b := by
  constructor
  · intro h
    have h2 : (strOf a).data.toList = (strOf b).data.toList := by rw [h]
    unfold strOf at h2
    rw [strOfNums_data, strOfNums_data, List.map_map, List.map_map] at h2
    have key : ∀ l : List Nat, (∀ x ∈ l, x < 256) → (l.map ((fun n : Int => UInt8.ofNat n.toNat) ∘ Int.ofNat)).map UInt8.toNat = l := by
      intro l hl
      rw [List.map_map]
      conv => rhs; rw [← List.map_id l]
      apply List.map_congr_left
      intro x hx
      have := hl x hx
      simp [Function.comp]
      omega
    rw [← key a ha, ← key b hb, h2]
  · rintro rfl; rfl
theorem strOf_beq {a b : List Nat} (ha : ∀ x ∈ a, x < 256) (hb : ∀ x ∈ b, x < 256) : ((strOf a).toList == (strOf b).toList) = decide (a = b) := by
  have e : ∀ l, (strOf l).toList = (strOf l).data.toList := fun l => by
    unfold strOf
    rw [Lib.strOfNums_toList, strOfNums_data]; rfl
  by_cases h : a = b
  · subst h
    rw [decide_eq_true rfl]; exact beq_self_eq_true _
  · rw [decide_eq_false h, beq_eq_false_iff_ne]
    intro h2
    rw [e, e] at h2
    exact h ((strOf_eq ha hb).1 (ByteArray.ext (Array.ext' h2)))
theorem equal_any (A A' : Option Addr) (B B' n c n' c' : Nat) (l l' : List Nat) (w : World) (hA : A = none → n = 0) (hA' : A' = none → n' = 0) (hl : l.length = n) (hl' : l'.length = n') (hb : Hid (Bs w B A l)) (hb' : Hid (Bs w B' A' l')) :
    Calls Tryd.prog 32 #[.slice A n c, .slice A' n' c'] w fun e w' => e = .returned (.bool (decide (l = l'))) ∧ w' = w := by
  have k1 := conv_bytes A B n c l w hA hl hb.out
  have k2 := conv_bytes A' B' n' c' l' w hA' hl' hb'.out
  have HE := Lib.hid (strOf_beq hb.out.lt hb'.out.lt)
  rw [← HE.out]
  generalize strOf l = s at k1 HE
  generalize strOf l' = s' at k2 HE
  clear HE hl hl' hA hA'
  go_enter Tryd.func32, Tryd.ntmps32
  go_wp2
  go_ret
  exact ⟨rfl, rfl⟩
theorem hasprefix_any (A A' : Option Addr) (B B' n c n' c' : Nat) (l l' : List Nat) (w : World) (hA : A = none → c = 0 ∧ n = 0) (hnc : n ≤ c) (hA' : A' = none → n' = 0) (hl : l.length = n) (hl' : l'.length = n') (hb : Hid (Bs w B A l)) (hb' : Hid (Bs w B' A' l')) :
    Calls Tryd.prog 21 #[.slice A n c, .slice A' n' c'] w fun e w' => e = .returned (.bool (decide (l' = l.take n'))) ∧ w' = w := by
  by_cases h : n' ≤ n
  · have HC : Hid (∀ W, W = w → Calls Tryd.prog 32 #[.slice A n' c, .slice A' n' c'] W fun e w' => e = .returned (.bool (decide (l' = l.take n'))) ∧ w' = w) := fun W e => by
      subst e
      have h1 := equal_any A A' B B' n' c n' c' (l.take n') l' W (fun e => by have := hA e; omega) hA' (by rw [List.length_take]; omega) hl' (hb.out.take n') hb'
      have e2 : decide (l.take n' = l') = decide (l' = l.take n') := by simp [eq_comm]
      rwa [e2] at h1
    have hd : decide ((n' : Int) ≤ (n : Int)) = true := by simp; omega
    clear hl hl' hA'
    generalize decide (l' = l.take n') = q at HC ⊢
    go_enter Tryd.func21, Tryd.ntmps21
    go_wp2_with (go_at_call 32; refine (HC.out _ rfl).mono ?_; rintro e w' ⟨rfl, rfl⟩)
    go_ret
    exact ⟨rfl, rfl⟩
  · have e : Hid (decide (l' = l.take n') = false) := decide_eq_false fun e => by
      have := congrArg List.length e
      rw [List.length_take] at this
      omega
    have hd : decide ((n' : Int) ≤ (n : Int)) = false := by simp; omega
    rw [e.out]
    clear hl hl' hA'
    go_enter Tryd.func21, Tryd.ntmps21
    go_wp2
    go_ret
    exact ⟨rfl, rfl⟩
end Go.Proofs.YtciaiaacboodeaaDoor
