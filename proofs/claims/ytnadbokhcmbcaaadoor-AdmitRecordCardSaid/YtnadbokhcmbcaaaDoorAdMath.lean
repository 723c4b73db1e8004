/-
  Plain mathematics of admission: the first error of a value that is to be set, its expiry. Nothing of the program.
-/
import Derived.Test.YtnadbokhcmbcaaaDoorGmMath
namespace Go.Proofs.YtnadbokhcmbcaaaDoor
namespace Ad
open Sb
/-- The greatest expiry of a layout's format. -/
def most (v : Int) : Int := if v = 2 then 1099511627775 else 4294967295
/-- The first error of a value of m bytes with a key of n bytes. -/
def err (l : L) (now ttl : Int) (n m : Nat) : Int :=
  if ¬ form l then 4 else if now < 0 ∨ 549755813888 < now ∨ ttl < 0 then 2 else if n = 0 ∨ 255 < n then 5 else if 65536 < m then 6
  else if 0 < ttl ∧ most l.ver - now < ttl then 7 else if Gm.cap l < ((16 + n + m : Nat) : Int) then 8 else 0
def exp (now ttl : Int) : Int := if ttl = 0 then 0 else now + ttl
/-- What Check says of the expiry. -/
def due (l : L) (now ttl : Int) (n m : Nat) : Int := if err l now ttl n m = 0 then exp now ttl else 0
/-- The expiry before it is checked: of a time to live that no format takes, less. -/
def sum (now ttl : Int) : Int := if ttl = 0 then 0 else now + min ttl 1099511627776
theorem sum_small {now ttl : Int} (h1 : 0 ≤ now) (h2 : now ≤ 549755813888) (h3 : 0 ≤ ttl) : 0 ≤ sum now ttl ∧ sum now ttl ≤ 1649267441664 := by
  unfold sum
  split <;> omega
theorem most_rc {l : L} (h : form l) : Rc.most l.ver = most l.ver := by
  obtain ⟨-, h2, -⟩ := h
  unfold most Rc.most
  split <;> split <;> omega
/-- What the record of a value says. -/
theorem chk_is {l : L} (h : form l) {now ttl : Int} (h1 : 0 ≤ now) (h2 : now ≤ 549755813888) (h3 : 0 ≤ ttl) (n m : Nat) :
    Rc.chk l.ver 1 n m (sum now ttl) = if n = 0 ∨ 255 < n then 5 else if 65536 < m then 6 else if 0 < ttl ∧ most l.ver - now < ttl then 7 else 0 := by
  have hv := h.2.1
  have hs := sum_small h1 h2 h3
  unfold Rc.chk
  rw [if_neg (by omega), if_neg (by unfold Rc.well; omega), most_rc h]
  have e : (sum now ttl < 0 ∨ most l.ver < sum now ttl) ↔ (0 < ttl ∧ most l.ver - now < ttl) := by
    unfold sum most
    split <;> split <;> omega
  simp only [e, ne_eq, show ¬ (1 : Int) = 3 by decide, not_false_eq_true, true_and]
theorem sum_ok {l : L} (h : form l) {now ttl : Int} (h1 : 0 ≤ now) (h2 : now ≤ 549755813888) (h3 : 0 ≤ ttl) {n m : Nat} (hc : Rc.chk l.ver 1 n m (sum now ttl) = 0) : sum now ttl = exp now ttl := by
  rw [chk_is h h1 h2 h3] at hc
  have hm : most l.ver ≤ 1099511627775 := by unfold most; split <;> omega
  unfold sum exp
  split at hc
  · cases hc
  split at hc
  · cases hc
  split at hc
  · cases hc
  split <;> omega
/-- What Check says, way by way: the errors. -/
theorem err_form {l : L} (h : ¬ form l) (now ttl : Int) (n m : Nat) : err l now ttl n m = 4 := if_pos h
theorem err_range {l : L} (h : form l) {now ttl : Int} (h1 : now < 0 ∨ 549755813888 < now ∨ ttl < 0) (n m : Nat) : err l now ttl n m = 2 := by
  unfold err
  rw [if_neg (Decidable.not_not.2 h), if_pos h1]
theorem err_chk {l : L} (h : form l) {now ttl : Int} (h1 : 0 ≤ now) (h2 : now ≤ 549755813888) (h3 : 0 ≤ ttl) (n m : Nat) :
    err l now ttl n m = if Rc.chk l.ver 1 n m (sum now ttl) ≠ 0 then Rc.chk l.ver 1 n m (sum now ttl) else if Gm.cap l < ((16 + n + m : Nat) : Int) then 8 else 0 := by
  rw [chk_is h h1 h2 h3]
  unfold err
  rw [if_neg (Decidable.not_not.2 h), if_neg (by omega)]
  split
  · rfl
  split
  · rfl
  split <;> rfl
theorem cap_form {l : L} : Gm.cap l = 0 ↔ ¬ form l := by
  unfold Gm.cap
  split
  · next h =>
    have := Gm.form_nums h
    exact ⟨fun e => by omega, fun e => absurd h e⟩
  · next h => exact ⟨fun _ => h, fun _ => rfl⟩
theorem cap_small (l : L) : 0 ≤ Gm.cap l ∧ Gm.cap l ≤ 120773 := by
  unfold Gm.cap
  split
  · next h =>
    have := Gm.form_nums h
    omega
  · omega
/-- The ways through Check. -/
theorem ways (l : L) (now ttl : Int) (n m : Nat) :
    (¬ form l ∧ err l now ttl n m = 4 ∧ due l now ttl n m = 0) ∨
    (form l ∧ (now < 0 ∨ 549755813888 < now ∨ ttl < 0) ∧ err l now ttl n m = 2 ∧ due l now ttl n m = 0) ∨
    (form l ∧ 0 ≤ now ∧ now ≤ 549755813888 ∧ 0 ≤ ttl ∧ Rc.chk l.ver 1 n m (sum now ttl) ≠ 0 ∧ err l now ttl n m = Rc.chk l.ver 1 n m (sum now ttl) ∧ due l now ttl n m = 0) ∨
    (form l ∧ 0 ≤ now ∧ now ≤ 549755813888 ∧ 0 ≤ ttl ∧ Rc.chk l.ver 1 n m (sum now ttl) = 0 ∧ Gm.cap l < ((16 + n + m : Nat) : Int) ∧ err l now ttl n m = 8 ∧ due l now ttl n m = 0) ∨
    (form l ∧ 0 ≤ now ∧ now ≤ 549755813888 ∧ 0 ≤ ttl ∧ Rc.chk l.ver 1 n m (sum now ttl) = 0 ∧ ¬ Gm.cap l < ((16 + n + m : Nat) : Int) ∧ err l now ttl n m = 0 ∧ due l now ttl n m = sum now ttl) := by
  by_cases h : form l
  · by_cases h1 : now < 0 ∨ 549755813888 < now ∨ ttl < 0
    · have e := err_range h h1 n m
      exact .inr (.inl ⟨h, h1, e, if_neg (by rw [e]; decide)⟩)
    · have e := err_chk h (now := now) (ttl := ttl) (by omega) (by omega) (by omega) n m
      by_cases h2 : Rc.chk l.ver 1 n m (sum now ttl) = 0
      · rw [if_neg (Decidable.not_not.2 h2)] at e
        by_cases h3 : Gm.cap l < ((16 + n + m : Nat) : Int)
        · rw [if_pos h3] at e
          exact .inr (.inr (.inr (.inl ⟨h, by omega, by omega, by omega, h2, h3, e, if_neg (by rw [e]; decide)⟩)))
        · rw [if_neg h3] at e
          exact .inr (.inr (.inr (.inr ⟨h, by omega, by omega, by omega, h2, h3, e, by unfold due; rw [if_pos e, sum_ok h (by omega) (by omega) (by omega) h2]⟩)))
      · rw [if_pos h2] at e
        exact .inr (.inr (.inl ⟨h, by omega, by omega, by omega, h2, e, if_neg (by rw [e]; exact h2)⟩))
  · have e := err_form h now ttl n m
    exact .inl ⟨h, e, if_neg (by rw [e]; decide)⟩
end Ad
end Go.Proofs.YtnadbokhcmbcaaaDoor
