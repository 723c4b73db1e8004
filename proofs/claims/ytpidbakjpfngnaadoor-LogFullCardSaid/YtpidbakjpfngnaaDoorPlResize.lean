/-
  The walks of plan.Resize, plan.Upgrade and plan.Return, and of the reference's.
-/
import Derived.Test.YtpidbakjpfngnaaDoorPlMay
import Derived.Deep.DeepCutAuto
import Derived.Deep.CutBlock
namespace Go.Proofs.YtpidbakjpfngnaaDoor
open Go.RowKit
/-- An answer of the three: a layout and an error. -/
def MgIs (w : World) (x : Mg.A) (r : Ending) (w' : World) : Prop := r = .returned (.tuple #[.agg #[.int .i64 x.l.id, .int .i64 x.l.ver, .int .i64 x.l.rs, .int .i64 x.l.reg], .int .i64 x.e]) ∧ Below w.heap.size w w'
theorem sd4_res {w w1 : World} {r : Nat} {a b c d a' b' c' d' : Value} {t : TypeId} (h : Sd w r (.cells #[a, b, c, d] t (0, 0)) w1) (hr : w.heap.size ≤ r) :
    Below w.heap.size w ((((w1.setCell ⟨r, 0, none⟩ a').setCell ⟨r, 1, none⟩ b').setCell ⟨r, 2, none⟩ c').setCell ⟨r, 3, none⟩ d') :=
  h.2.trans (below_of_grown (stored_grown _ _ _ _ _ _) hr h.2.size)
theorem sd2_left {w w1 : World} {o0 o1 : Obj} (h : Sd2 w o0 o1 w1) : Sd w w.heap.size o0 w1 := ⟨h.1, h.2.2⟩
theorem sd2_right {w w1 : World} {o0 o1 : Obj} (h : Sd2 w o0 o1 w1) : Sd w (w.heap.size + 1) o1 w1 := ⟨h.2.1, h.2.2⟩
theorem sd_past {w w1 : World} {r g j : Nat} {o : Obj} {v : Value} (h : Sd w r o w1) (hr : r ≠ g) (hw : w.heap.size ≤ g) : Sd w r o (w1.setCell ⟨g, j, none⟩ v) :=
  ⟨((grown_set _ _ _ _).block _ h.lt (fun e => hr (by injection e))).trans h.1, h.2.trans (below_of_grown (grown_set _ _ _ _) hw h.2.size)⟩
theorem stored_at0 {w : World} {r : Nat} {a b c d a' : Value} {t : TypeId} (h : w.heap[r]? = some (.cells #[a, b, c, d] t (0, 0))) : (w.setCell ⟨r, 0, none⟩ a').heap[r]? = some (.cells #[a', b, c, d] t (0, 0)) := by
  simp [World.setCell, Array.getElem?_modify, h]
theorem resize_ways (l : Sb.L) (s rs reg : Int) : (decide (Mg.may l) = false ∧ Mg.resize l s rs reg = ⟨Sb.L0, 4⟩) ∨
    (decide (Mg.may l) = true ∧ Sb.sameL ⟨l.id, l.ver, rs, reg⟩ l = true ∧ Mg.resize l s rs reg = ⟨Sb.L0, 10⟩) ∨
    (decide (Mg.may l) = true ∧ Sb.sameL ⟨l.id, l.ver, rs, reg⟩ l = false ∧ decide (Mg.room ⟨l.id, l.ver, rs, reg⟩ s) = false ∧ Mg.resize l s rs reg = ⟨Sb.L0, 10⟩) ∨
    (decide (Mg.may l) = true ∧ Sb.sameL ⟨l.id, l.ver, rs, reg⟩ l = false ∧ decide (Mg.room ⟨l.id, l.ver, rs, reg⟩ s) = true ∧ Mg.resize l s rs reg = ⟨⟨l.id + 1, l.ver, rs, reg⟩, 0⟩ ∧ 1 ≤ l.id ∧ l.id ≤ 4294967293) := by
  unfold Mg.resize
  by_cases h1 : Mg.may l
  · rw [if_pos h1]
    have hs : Sb.sameL ⟨l.id, l.ver, rs, reg⟩ l = true ↔ rs = l.rs ∧ reg = l.reg := by
      rw [Sb.sameL_iff]
      obtain ⟨i, v, r, g⟩ := l
      simp only [Sb.L.mk.injEq, true_and]
    have hf : Sb.form ⟨l.id, l.ver, rs, reg⟩ ↔ Sb.form (Mg.tgt l rs reg) := by
      have := h1.1.1
      have := h1.2
      unfold Sb.form Mg.tgt
      simp only
      constructor <;> rintro ⟨-, k⟩ <;> exact ⟨by omega, k⟩
    cases hx : Sb.sameL ⟨l.id, l.ver, rs, reg⟩ l with
    | true => exact .inr (.inl ⟨decide_eq_true h1, rfl, by rw [if_neg (fun k => k.2.2 (hs.1 hx))]⟩)
    | false =>
      have hn : ¬ (rs = l.rs ∧ reg = l.reg) := fun k => by rw [hs.2 k] at hx; cases hx
      by_cases h2 : Mg.room ⟨l.id, l.ver, rs, reg⟩ s
      · exact .inr (.inr (.inr ⟨decide_eq_true h1, rfl, decide_eq_true h2, by rw [if_pos (show Mg.fits l s rs reg from ⟨hf.1 h2.1, h2.2, hn⟩)]; rfl, h1.1.1.1, h1.2⟩))
      · exact .inr (.inr (.inl ⟨decide_eq_true h1, rfl, decide_eq_false h2, by rw [if_neg (fun k => h2 ⟨hf.2 k.1, k.2.1⟩)]⟩))
  · exact .inl ⟨decide_eq_false h1, by rw [if_neg h1]⟩
theorem upgrade_ways (l : Sb.L) : (decide (Mg.may l) = false ∧ Mg.upgrade l = ⟨Sb.L0, 4⟩) ∨ (decide (Mg.may l) = true ∧ (l.ver == 2) = true ∧ Mg.upgrade l = ⟨Sb.L0, 10⟩) ∨
    (decide (Mg.may l) = true ∧ (l.ver == 2) = false ∧ Mg.upgrade l = ⟨⟨l.id + 1, 2, l.rs, l.reg⟩, 0⟩ ∧ 1 ≤ l.id ∧ l.id ≤ 4294967293) := by
  unfold Mg.upgrade
  by_cases h1 : Mg.may l
  · rw [if_pos h1]
    by_cases h2 : l.ver = 2
    · exact .inr (.inl ⟨decide_eq_true h1, by rw [h2]; rfl, by rw [if_pos h2]⟩)
    · exact .inr (.inr ⟨decide_eq_true h1, beq_eq_false_iff_ne.2 h2, by rw [if_neg h2], h1.1.1.1, h1.2⟩)
  · exact .inl ⟨decide_eq_false h1, by rw [if_neg h1]⟩
theorem stored_at01 {w : World} {r : Nat} {a b c d a' b' : Value} {t : TypeId} (h : w.heap[r]? = some (.cells #[a, b, c, d] t (0, 0))) : ((w.setCell ⟨r, 0, none⟩ a').setCell ⟨r, 1, none⟩ b').heap[r]? = some (.cells #[a', b', c, d] t (0, 0)) := by
  simp [World.setCell, Array.getElem?_modify, h]
end Go.Proofs.YtpidbakjpfngnaaDoor
