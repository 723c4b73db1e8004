/-
  The walk of cmp.Compare at int.
-/
import Derived.Test.YtmkilbogdenljaaBase
set_option maxRecDepth 100000
namespace Go.Proofs.Ytmkilbogdenljaa
open Go.RowKit
def cmpZ (x y : Int) : Int := if x < y then -1 else if x > y then 1 else 0
theorem nanz_any (x : Int) (w : World) : Calls Try.prog 42 #[.int .i64 x] w fun e w' => e = .returned (.bool false) ∧ w' = w := by
  have hx : (x != x) = false := by simp
  go_enter Try.func42, Try.ntmps42
  go_wp2_with fail
  go_ret
  exact ⟨rfl, rfl⟩
theorem cmpz_any (x y : Int) (w : World) : Calls Try.prog 27 #[.int .i64 x, .int .i64 y] w fun e w' => e = .returned (.int .i64 (cmpZ x y)) ∧ w' = w := by
  rcases Int.lt_trichotomy x y with h | rfl | h
  · have hr : cmpZ x y = -1 := by unfold cmpZ; rw [if_pos h]
    have hlt : decide (x < y) = true := decide_eq_true h
    rw [hr]
    clear hr h
    go_enter Try.func27, Try.ntmps27
    go_wp2_with (go_at_call 42; refine (nanz_any _ _).mono ?_; rintro e w' ⟨rfl, rfl⟩)
    go_ret
    exact ⟨rfl, rfl⟩
  · have hr : cmpZ x x = 0 := by unfold cmpZ; rw [if_neg (Int.lt_irrefl _), if_neg (Int.lt_irrefl _)]
    have hlt : decide (x < x) = false := decide_eq_false (Int.lt_irrefl _)
    have hgt : decide (x > x) = false := decide_eq_false (Int.lt_irrefl _)
    rw [hr]
    clear hr
    go_enter Try.func27, Try.ntmps27
    go_wp2_with (go_at_call 42; refine (nanz_any _ _).mono ?_; rintro e w' ⟨rfl, rfl⟩)
    go_ret
    exact ⟨rfl, rfl⟩
  · have hr : cmpZ x y = 1 := by unfold cmpZ; rw [if_neg (by omega), if_pos h]
    have hlt : decide (x < y) = false := decide_eq_false (by omega)
    have hgt : decide (x > y) = true := decide_eq_true h
    rw [hr]
    clear hr h
    go_enter Try.func27, Try.ntmps27
    go_wp2_with (go_at_call 42; refine (nanz_any _ _).mono ?_; rintro e w' ⟨rfl, rfl⟩)
    go_ret
    exact ⟨rfl, rfl⟩
end Go.Proofs.Ytmkilbogdenljaa
