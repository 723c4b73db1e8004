/-
  Words on records as values, and the small walks: Length, isWellFormed, maxExpiry, Check, and the reference's Length.
-/
import Derived.Test.YtnadbokhcmbcaaaDoorRows
import Derived.Test.YtnadbokhcmbcaaaDoorBase
import Derived.Deep.RegionHeld3
import Derived.BigQuiet
namespace Go.Proofs.YtnadbokhcmbcaaaDoor
open Go.RowKit

/-- A record as a value. -/
def recv (kd : Int) (A : Option Addr) (n c : Nat) (A' : Option Addr) (n' c' : Nat) (x : Int) : Value := .agg #[.int .i64 kd, .slice A n c, .slice A' n' c', .int .i64 x]
theorem length_any (kd : Int) (A : Option Addr) (n c : Nat) (A' : Option Addr) (n' c' : Nat) (x : Int) (w : World) (hs : n ≤ 140737488355328) (hs' : n' ≤ 140737488355328) :
    Calls Tryd.prog 14 #[.agg #[.int .i64 kd, .slice A n c, .slice A' n' c', .int .i64 x]] w fun e w' => e = .returned (.int .i64 ((16 + n + n' : Nat) : Int)) ∧ Below w.heap.size w w' := by
  go_enter Tryd.func14, Tryd.ntmps14
  go_wp2
  go_ret
  exact ⟨ret_int (by omega), (Below.refl _ _).alloc (Nat.le_refl _) _⟩
theorem well_any (kd : Int) (A : Option Addr) (n c : Nat) (A' : Option Addr) (n' c' : Nat) (x : Int) (w : World) :
    Calls Tryd.prog 19 #[.agg #[.int .i64 kd, .slice A n c, .slice A' n' c', .int .i64 x]] w fun e w' => e = .returned (.bool (decide (Rc.well kd n n' x))) ∧ Below w.heap.size w w' := by
  go_enter Tryd.func19, Tryd.ntmps19
  go_wp2
  all_goals
    go_ret
    refine ⟨ret_bool ?_, (Below.refl _ _).alloc (Nat.le_refl _) _⟩
    simp only [beq_iff_eq, beq_eq_false_iff_ne] at *
    rw [Bool.eq_iff_iff, decide_eq_true_iff]
    unfold Rc.well
    try simp only [beq_iff_eq, true_iff, Bool.false_eq_true, false_iff]
    omega
theorem maxexp_any (v : Int) (w : World) :
    Calls Tryd.prog 20 #[.int .i64 v] w fun e w' => e = .returned (.int .i64 (Rc.most v)) ∧ w = w' := by
  by_cases h : v = 1
  · subst h
    go_enter Tryd.func20, Tryd.ntmps20
    go_wp2
    go_ret
    exact ⟨rfl, rfl⟩
  · have e : Hid (Rc.most v = 1099511627775) := if_neg h
    have h1 : (v == 1) = false := by simp; omega
    rw [e.out]
    clear h
    go_enter Tryd.func20, Tryd.ntmps20
    go_wp2
    go_ret
    exact ⟨rfl, rfl⟩
set_option maxHeartbeats 400000 in
theorem check_any (v kd : Int) (A : Option Addr) (n c : Nat) (A' : Option Addr) (n' c' : Nat) (x : Int) (w : World) :
    Calls Tryd.prog 13 #[.int .i64 v, .agg #[.int .i64 kd, .slice A n c, .slice A' n' c', .int .i64 x]] w fun e w' => e = .returned (.int .i64 (Rc.chk v kd n n' x)) ∧ Below w.heap.size w w' := by
  have HB : Hid (∀ o, Below w.heap.size w (w.alloc o)) := fun o => (Below.refl _ _).alloc (Nat.le_refl _) o
  by_cases hv : v = 1 ∨ v = 2
  · by_cases hw : Rc.well kd n n' x
    · have HW : Hid (∀ W, Calls Tryd.prog 19 #[.agg #[.int .i64 kd, .slice A n c, .slice A' n' c', .int .i64 x]] W fun e w' => e = .returned (.bool true) ∧ Below W.heap.size W w') := fun W => by
        have h := well_any kd A n c A' n' c' x W
        rwa [decide_eq_true hw] at h
      by_cases hk : kd ≠ 3 ∧ (n = 0 ∨ 255 < n)
      · have e : Hid (Rc.chk v kd n n' x = 5) := by
          show _ = _
          unfold Rc.chk
          rw [if_neg (by omega), if_neg (Decidable.not_not.2 hw), if_pos hk]
        rw [e.out]
        have hk3 : (kd != 3) = true := by rw [bne_iff_ne]; exact hk.1
        rcases hk.2 with rfl | h255
        all_goals
          clear hk hw
          rcases hv with rfl | rfl
        all_goals
          go_enter Tryd.func13, Tryd.ntmps13
          go_wp2_with fail
          refine (HW.out _).mono ?_
          rintro e w1 ⟨rfl, hb⟩
          obtain ⟨c0, c1, c2, c3⟩ := four_cells (boxed hb)
          have HB1 := Lib.hid hb; clear hb
          go_wp2
          go_ret
          exact ⟨rfl, (HB.out _).trans (HB1.out.mono (HB.out _).size)⟩
      · have hk' : (kd = 3) ∨ ((kd != 3) = true ∧ ((n : Int) == 0) = false ∧ decide ((255 : Int) < (n : Int)) = false) := by
          by_cases h3 : kd = 3
          · exact .inl h3
          · exact .inr ⟨by rw [bne_iff_ne]; exact h3, by simp; omega, by simp; omega⟩
        have e : Rc.chk v kd n n' x = if 65536 < n' then 6 else if x < 0 ∨ Rc.most v < x then 7 else 0 := by
          unfold Rc.chk
          rw [if_neg (by omega), if_neg (Decidable.not_not.2 hw), if_neg hk]
        have he : (65536 < n' ∧ Hid (Rc.chk v kd n n' x = 6)) ∨ (n' ≤ 65536 ∧ ((decide (x < 0) = true ∧ Hid (Rc.chk v kd n n' x = 7)) ∨ (decide (x < 0) = false ∧ decide (Rc.most v < x) = true ∧ Hid (Rc.chk v kd n n' x = 7)) ∨ (decide (x < 0) = false ∧ decide (Rc.most v < x) = false ∧ Hid (Rc.chk v kd n n' x = 0)))) := by
          by_cases h1 : 65536 < n'
          · exact .inl ⟨h1, by show _ = _; rw [e, if_pos h1]⟩
          · refine .inr ⟨by omega, ?_⟩
            by_cases h2 : x < 0
            · exact .inl ⟨by simpa using h2, by show _ = _; rw [e, if_neg h1, if_pos (.inl h2)]⟩
            · by_cases h3 : Rc.most v < x
              · exact .inr (.inl ⟨by simp; omega, by simpa using h3, by show _ = _; rw [e, if_neg h1, if_pos (.inr h3)]⟩)
              · exact .inr (.inr ⟨by simp; omega, by simp; omega, by show _ = _; rw [e, if_neg h1, if_neg (by omega)]⟩)
        clear e hk hw
        rcases he with ⟨h1, e⟩ | ⟨h1, ⟨h2, e⟩ | ⟨h2, h3, e⟩ | ⟨h2, h3, e⟩⟩
        all_goals
          rw [e.out]
          rcases hk' with rfl | ⟨k1, k2, k3⟩
        all_goals
          rcases hv with rfl | rfl
        all_goals
          go_enter Tryd.func13, Tryd.ntmps13
          go_wp2_with fail
          refine (HW.out _).mono ?_
          rintro e w1 ⟨rfl, hb⟩
          obtain ⟨c0, c1, c2, c3⟩ := four_cells (boxed hb)
          have HB1 := Lib.hid hb; clear hb
          try go_wp2_with fail
          try (go_quiet (first | (go_at_call 20; refine Calls.quiet_of_same ((maxexp_any _ _).mono fun _ _ h => ⟨h.1, h.2.symm⟩))); go_wp2)
          go_ret
          first
            | exact ⟨rfl, (HB.out _).trans (HB1.out.mono (HB.out _).size)⟩
            | exact ⟨rfl, below_drawn ((HB.out _).trans (HB1.out.mono (HB.out _).size)) _⟩
    · have e : Hid (Rc.chk v kd n n' x = 4) := by
        show _ = _
        unfold Rc.chk
        rw [if_neg (by omega), if_pos hw]
      have hd : decide (Rc.well kd n n' x) = false := decide_eq_false hw
      rw [e.out]
      have HW := fun W => Lib.hid (well_any kd A n c A' n' c' x W)
      rw [hd] at HW
      rcases hv with rfl | rfl
      all_goals
        go_enter Tryd.func13, Tryd.ntmps13
        go_wp2_with fail
        refine (HW _).out.mono ?_
        rintro e w1 ⟨rfl, hb⟩
        go_wp2
        go_ret
        exact ⟨rfl, (HB.out _).trans (hb.mono (HB.out _).size)⟩
  · have h1 : (v != 1) = true := by rw [bne_iff_ne]; omega
    have h2 : (v != 2) = true := by rw [bne_iff_ne]; omega
    have e : Hid (Rc.chk v kd n n' x = 2) := by
      show _ = _
      unfold Rc.chk
      rw [if_pos (by omega)]
    rw [e.out]
    clear hv
    go_enter Tryd.func13, Tryd.ntmps13
    go_wp2
    go_ret
    exact ⟨rfl, HB.out _⟩
end Go.Proofs.YtnadbokhcmbcaaaDoor
