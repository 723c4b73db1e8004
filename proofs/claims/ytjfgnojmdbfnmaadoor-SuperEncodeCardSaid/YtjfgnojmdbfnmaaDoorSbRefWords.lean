/-
  Words for the walk of the reference's Valid of superblocks.
-/
import Derived.Test.YtjfgnojmdbfnmaaDoorSbValid
namespace Go.Proofs.YtjfgnojmdbfnmaaDoor
open Go.RowKit
/-- The first of eight that is true. -/
theorem yes8 (t0 t1 t2 t3 t4 t5 t6 t7 : Bool) : t0 = true ∨ (t0 = false ∧ t1 = true) ∨ (t0 = false ∧ t1 = false ∧ t2 = true) ∨ (t0 = false ∧ t1 = false ∧ t2 = false ∧ t3 = true) ∨ (t0 = false ∧ t1 = false ∧ t2 = false ∧ t3 = false ∧ t4 = true) ∨ (t0 = false ∧ t1 = false ∧ t2 = false ∧ t3 = false ∧ t4 = false ∧ t5 = true) ∨ (t0 = false ∧ t1 = false ∧ t2 = false ∧ t3 = false ∧ t4 = false ∧ t5 = false ∧ t6 = true) ∨ (t0 = false ∧ t1 = false ∧ t2 = false ∧ t3 = false ∧ t4 = false ∧ t5 = false ∧ t6 = false ∧ t7 = true) ∨ (t0 = false ∧ t1 = false ∧ t2 = false ∧ t3 = false ∧ t4 = false ∧ t5 = false ∧ t6 = false ∧ t7 = false) := by
  cases t0 <;> cases t1 <;> cases t2 <;> cases t3 <;> cases t4 <;> cases t5 <;> cases t6 <;> cases t7 <;> simp
theorem home_bool (s : Sb.S) : decide (Sb.home s) = ((s.mig != 0) && (decide (Sb.form s.h) && (decide (0 < s.f.length) && (Sb.sameL (s.f.getD 0 Sb.L0) s.h && (s.t.id != s.h.id))))) := by
  rw [Sb.sameL_decide, ← decide_ne, ← decide_ne]
  simp only [← Bool.decide_and]
  rfl
theorem two_bool (s : Sb.S) (h : s.phase = 2) (hm : 0 ≤ s.mig) : decide (Sb.suits s) = (decide (0 < s.mig) && (decide (Sb.form s.h) && (decide (s.f.length = 1) && (Sb.sameL (s.f.getD 0 Sb.L0) s.h && (s.t.id != s.h.id))))) := by
  rw [suits_two h, Sb.sameL_decide, ← decide_ne]
  simp only [← Bool.decide_and]
  refine decide_eq_decide.2 ⟨fun ⟨⟨k1, k2, k3, k4, k5⟩, k6⟩ => ⟨by omega, k2, k6, k4, k5⟩, fun ⟨k1, k2, k3, k4, k5⟩ => ⟨⟨by omega, k2, by omega, k4, k5⟩, k3⟩⟩
/-- The numbers of the three layouts of a returning migration. -/
def okNums (t h f : Sb.L) : Bool := (t.id != h.id) && ((t.id != f.id) && ((h.id != f.id) && ((t.ver == h.ver) && ((t.rs == h.rs) && (t.reg == h.reg)))))
theorem three_bool (s : Sb.S) (h : s.phase = 3) : decide (Sb.suits s) = ((s.mig != 0) && (decide (Sb.form s.h) && (decide (s.f.length = 2) && (Sb.sameL (s.f.getD 0 Sb.L0) s.h && (decide (Sb.form (s.f.getD 1 Sb.L0)) && okNums s.t s.h (s.f.getD 1 Sb.L0)))))) := by
  have hk : okNums s.t s.h (s.f.getD 1 Sb.L0) = decide (s.t.id ≠ s.h.id ∧ s.t.id ≠ (s.f.getD 1 Sb.L0).id ∧ s.h.id ≠ (s.f.getD 1 Sb.L0).id ∧ s.t.ver = s.h.ver ∧ s.t.rs = s.h.rs ∧ s.t.reg = s.h.reg) := by
    unfold okNums
    rw [← decide_ne, ← decide_ne, ← decide_ne]
    have e : ∀ a b : Int, (a == b) = decide (a = b) := fun a b => by by_cases h : a = b <;> simp [h]
    rw [e, e, e]
    simp only [← Bool.decide_and]
  rw [suits_three h, Sb.sameL_decide, ← decide_ne, hk]
  simp only [← Bool.decide_and]
  refine decide_eq_decide.2 ⟨fun ⟨⟨k1, k2, k3, k4, k5⟩, k6, b1, b2, b3, b4⟩ => ?_, fun ⟨k1, k2, k3, k4, k5, b1, b2, b3, b4, b5, b6⟩ => ?_⟩
  · have q1 := congrArg Sb.L.ver b1
    have q2 := congrArg Sb.L.rs b1
    have q3 := congrArg Sb.L.reg b1
    exact ⟨k1, k2, k6, k4, b2, k5, fun e => b4 e.symm, fun e => b3 e.symm, q1, q2, q3⟩
  · refine ⟨⟨k1, k2, by omega, k4, b1⟩, k3, ?_, k5, fun e => b3 e.symm, fun e => b2 e.symm⟩
    show s.t = ⟨s.t.id, s.h.ver, s.h.rs, s.h.reg⟩
    rw [← b4, ← b5, ← b6]
theorem ne_of_beq' {a b : Int} (h : (a == b) = false) : (a != b) = true := by rw [bne, h]; rfl
theorem range_bool (a m M : Int) : decide (m ≤ a ∧ a ≤ M) = (!decide (a < m) && !decide (M < a)) := by
  by_cases h : a < m <;> by_cases h2 : M < a <;> simp [h, h2] <;> omega
end Go.Proofs.YtjfgnojmdbfnmaaDoor
