/-
  The walks of plan.Resize, plan.Upgrade and plan.Return, and of the reference's.
-/
import Derived.Test.YtjlakkfbeijnbaaDoorPlMay
import Derived.Deep.DeepCutAuto
import Derived.Deep.CutBlock
namespace Go.Proofs.YtjlakkfbeijnbaaDoor
open Go.RowKit
/-- An answer of the three: a layout and an error. -/
def MgIs (w : World) (x : Mg.A) (r : Ending) (w' : World) : Prop := r = .returned (.tuple #[.agg #[.int .i64 x.l.id, .int .i64 x.l.ver, .int .i64 x.l.rs, .int .i64 x.l.reg], .int .i64 x.e]) ∧ Below w.heap.size w w'
theorem sd4_res {w w1 : World} {r : Nat} {a b c d a' b' c' d' : Value} {t : TypeId} (h : Sd w r (.cells #[a, b, c, d] t (0, 0)) w1) (hr : w.heap.size ≤ r) :
    Below w.heap.size w ((((w1.setCell ⟨r, 0, none⟩ a').setCell ⟨r, 1, none⟩ b').setCell ⟨r, 2, none⟩ c').setCell ⟨r, 3, none⟩ d') :=
  h.2.trans (below_of_grown (stored_grown _ _ _ _ _ _) hr h.2.size)
theorem sd2_left {w w1 : World} {o0 o1 : Obj} (h : Sd2 w o0 o1 w1) : Sd w w.heap.size o0 w1 := ⟨h.1, h.2.2⟩
theorem sd2_right {w w1 : World} {o0 o1 : Obj} (h : Sd2 w o0 o1 w1) : Sd w (w.heap.size + 1) o1 w1 := ⟨h.2.1, h.2.2⟩
theorem sd_past {w w1 : World} {r g j : Nat} {o : Obj} {v : Value} (h : Sd w r o w1) (hr : r ≠ g) (hw : w.heap.size ≤ g) : Sd w r o (w1.setCell ⟨g, j, none⟩ v) :=
  ⟨((grown_set _ _ _ _).block _ h.lt (fun e => hr (by injection e))).trans h.1, h.2.trans (below_of_grown (grown_set _ _ _ _) hw h.2.size)⟩
theorem stored_at0 {w : World} {r : Nat} {a b c d a' : Value} {t : TypeId} (h : w.heap[r]? = some (.cells #[a, b, c, d] t (0, 0))) : (w.setCell ⟨r, 0, none⟩ a').heap[r]? = some (.cells #[a', b, c, d] t (0, 0)) := by
  simp [World.setCell, Array.getElem?_modify, h]
theorem resize_ways (l : Sb.L) (s rs reg : Int) : (decide (Mg.may l) = false ∧ Mg.resize l s rs reg = ⟨Sb.L0, 4⟩) ∨
    (decide (Mg.may l) = true ∧ Sb.sameL ⟨l.id, l.ver, rs, reg⟩ l = true ∧ Mg.resize l s rs reg = ⟨Sb.L0, 10⟩) ∨
    (decide (Mg.may l) = true ∧ Sb.sameL ⟨l.id, l.ver, rs, reg⟩ l = false ∧ decide (Mg.room ⟨l.id, l.ver, rs, reg⟩ s) = false ∧ Mg.resize l s rs reg = ⟨Sb.L0, 10⟩) ∨
    (decide (Mg.may l) = true ∧ Sb.sameL ⟨l.id, l.ver, rs, reg⟩ l = false ∧ decide (Mg.room ⟨l.id, l.ver, rs, reg⟩ s) = true ∧ Mg.resize l s rs reg = ⟨⟨l.id + 1, l.ver, rs, reg⟩, 0⟩ ∧ 1 ≤ l.id ∧ l.id ≤ 4294967293) := by
  unfold Mg.resize
  by_cases h1 : Mg.may l
  · rw [if_pos h1]
    have hs : Sb.sameL ⟨l.id, l.ver, rs, reg⟩ l = true ↔ rs = l.rs ∧ reg = l.reg := by
      rw [Sb.sameL_iff]
      obtain ⟨i, v, r, g⟩ := l
      simp only [Sb.L.mk.injEq, true_and]
    have hf : Sb.form ⟨l.id, l.ver, rs, reg⟩ ↔ Sb.form (Mg.tgt l rs reg) := by
      have := h1.1.1
      have := h1.2
      unfold Sb.form Mg.tgt
      simp only
      constructor <;> rintro ⟨-, k⟩ <;> exact ⟨by omega, k⟩
    cases hx : Sb.sameL ⟨l.id, l.ver, rs, reg⟩ l with
    | true => exact .inr (.inl ⟨decide_eq_true h1, rfl, by rw [if_neg (fun k => k.2.2 (hs.1 hx))]⟩)
    | false =>
      have hn : ¬ (rs = l.rs ∧ reg = l.reg) := fun k => by rw [hs.2 k] at hx; cases hx
      by_cases h2 : Mg.room ⟨l.id, l.ver, rs, reg⟩ s
      · exact .inr (.inr (.inr ⟨decide_eq_true h1, rfl, decide_eq_true h2, by rw [if_pos (show Mg.fits l s rs reg from ⟨hf.1 h2.1, h2.2, hn⟩)]; rfl, h1.1.1.1, h1.2⟩))
      · exact .inr (.inr (.inl ⟨decide_eq_true h1, rfl, decide_eq_false h2, by rw [if_neg (fun k => h2 ⟨hf.2 k.1, k.2.1⟩)]⟩))
  · exact .inl ⟨decide_eq_false h1, by rw [if_neg h1]⟩
set_option maxHeartbeats 2000000 in
theorem plresize_any (a b c d s rs reg : Int) (w : World) :
    Calls Tryd.prog 20 #[.agg #[.int .i64 a, .int .i64 b, .int .i64 c, .int .i64 d], .int .i64 s, .int .i64 rs, .int .i64 reg] w (MgIs w (Mg.resize ⟨a, b, c, d⟩ s rs reg)) := by
  have CM := Lib.hid (fun W => plmay_any a b c d W)
  have CF := Lib.hid (fun W => plfits_any a b rs reg s W)
  have hw := resize_ways ⟨a, b, c, d⟩ s rs reg
  have hq : ∀ W : World, (Op.equalIn 10000 23 (.agg #[.int .i64 a, .int .i64 b, .int .i64 rs, .int .i64 reg]) (.agg #[.int .i64 a, .int .i64 b, .int .i64 c, .int .i64 d])).run Tryd.prog W = .ok (Sb.sameL ⟨a, b, rs, reg⟩ ⟨a, b, c, d⟩) W := fun W => lay_eq W _ _ _ _ _ _ _ _
  simp only at hw
  generalize decide (Mg.may ⟨a, b, c, d⟩) = t0 at *
  generalize decide (Mg.room ⟨a, b, rs, reg⟩ s) = t1 at *
  generalize Sb.sameL ⟨a, b, rs, reg⟩ ⟨a, b, c, d⟩ = t2 at *
  generalize Mg.resize ⟨a, b, c, d⟩ s rs reg = x at *
  have HS0 := Lib.hid (sd2_new w #[.int .i64 a, .int .i64 b, .int .i64 c, .int .i64 d] #[.int .i64 0, .int .i64 0, .int .i64 0, .int .i64 0] 23 23)
  unfold MgIs
  rcases hw with ⟨rfl, rfl⟩ | hw
  · go_enter Tryd.func20, Tryd.ntmps20
    go_upto_region 1 with fail
    generalize (w.alloc (.cells #[.int .i64 a, .int .i64 b, .int .i64 c, .int .i64 d] 23)).alloc (.cells #[.int .i64 0, .int .i64 0, .int .i64 0, .int .i64 0] 23) = w0 at *
    obtain ⟨z0, z1, z2, z3⟩ := four_cells HS0.out.1
    go_wp2_with fail
    refine (CM.out _).mono ?_
    rintro r w1 ⟨rfl, hb1⟩
    have HS1 := Lib.hid (HS0.out.next hb1 (by rfl) (by rfl) (by rfl) (by rfl))
    clear hb1
    obtain ⟨y0, y1, y2, y3⟩ := four_cells HS1.out.2.1
    obtain ⟨f0, f1, f2, f3⟩ := four_frozen HS1.out.2.1
    go_wp2_with fail
    (try simp only [Exit.inBlock, Exit.then])
    refine bodyPost_ret (results_row2 rfl _ _ (w.heap.size + 1) _ _ (0, 0) _ rfl (stored HS1.out.2.1) Tryd.underlying23 rfl (by kernel_rfl)) rfl ?_
    exact ⟨rfl, sd4_res (sd2_right HS1.out) (by omega)⟩
  · have ht0 : t0 = true := by rcases hw with h | h | h <;> exact h.1
    subst ht0
    go_enter Tryd.func20, Tryd.ntmps20
    go_upto_region 1 with fail
    generalize (w.alloc (.cells #[.int .i64 a, .int .i64 b, .int .i64 c, .int .i64 d] 23)).alloc (.cells #[.int .i64 0, .int .i64 0, .int .i64 0, .int .i64 0] 23) = w0 at *
    obtain ⟨z0, z1, z2, z3⟩ := four_cells HS0.out.1
    go_wp2_with fail
    refine (CM.out _).mono ?_
    rintro r w1 ⟨rfl, hb1⟩
    have HS1 := Lib.hid (HS0.out.next hb1 (by rfl) (by rfl) (by rfl) (by rfl))
    clear hb1 z0 z1 z2 z3
    obtain ⟨z0, z1, z2, z3⟩ := four_cells HS1.out.1
    go_upto_region 5 with fail
    have HT : Hid ((w1.alloc (.cells #[.int .i64 a, .int .i64 b, .int .i64 rs, .int .i64 reg] 23)).heap[w1.heap.size]? = some (.cells #[.int .i64 a, .int .i64 b, .int .i64 rs, .int .i64 reg] 23 (0, 0))) := heap_alloc_new _ _
    have HS2 : Hid (Sd2 w _ _ (w1.alloc (.cells #[.int .i64 a, .int .i64 b, .int .i64 rs, .int .i64 reg] 23))) := HS1.out.next ((Below.refl _ w1).alloc (Nat.le_refl _) _) rfl rfl rfl rfl
    have HLT : Hid (w.heap.size + 1 < w1.heap.size) := (sd2_right HS1.out).lt
    clear HS0 CM z0 z1 z2 z3
    generalize w1.alloc (.cells #[.int .i64 a, .int .i64 b, .int .i64 rs, .int .i64 reg] 23) = w2 at *
    obtain ⟨x0, x1, x2, x3⟩ := four_cells HS2.out.1
    obtain ⟨y0, y1, y2, y3⟩ := four_cells HS2.out.2.1
    obtain ⟨f0, f1, f2, f3⟩ := four_frozen HS2.out.2.1
    obtain ⟨v0, v1, v2, v3⟩ := four_cells HT.out
    rcases hw with ⟨-, rfl, rfl⟩ | ⟨-, rfl, rfl, rfl⟩ | ⟨-, rfl, rfl, rfl, g0, g1⟩
    · go_wp2_with fail
      (try simp only [Exit.inBlock, Exit.then])
      refine bodyPost_ret (results_row2 rfl _ _ (w.heap.size + 1) _ _ (0, 0) _ rfl (stored HS2.out.2.1) Tryd.underlying23 rfl (by kernel_rfl)) rfl ?_
      exact ⟨rfl, sd4_res (sd2_right HS2.out) (by omega)⟩
    · go_wp2_with fail
      refine (CF.out _).mono ?_
      rintro r w3 ⟨rfl, hb3⟩
      have HS3 := Lib.hid (HS2.out.next hb3 (by rfl) (by rfl) (by rfl) (by rfl))
      clear hb3 x0 x1 x2 x3 y0 y1 y2 y3 f0 f1 f2 f3 v0 v1 v2 v3
      obtain ⟨y0, y1, y2, y3⟩ := four_cells HS3.out.2.1
      obtain ⟨f0, f1, f2, f3⟩ := four_frozen HS3.out.2.1
      go_wp2_with fail
      (try simp only [Exit.inBlock, Exit.then])
      refine bodyPost_ret (results_row2 rfl _ _ (w.heap.size + 1) _ _ (0, 0) _ rfl (stored HS3.out.2.1) Tryd.underlying23 rfl (by kernel_rfl)) rfl ?_
      exact ⟨rfl, sd4_res (sd2_right HS3.out) (by omega)⟩
    · go_wp2_with fail
      refine (CF.out _).mono ?_
      rintro r w3 ⟨rfl, hb3⟩
      have HS3 := Lib.hid (HS2.out.next hb3 (by rfl) (by rfl) (by rfl) (by rfl))
      have HT3 : Hid (w3.heap[w1.heap.size]? = some (.cells #[.int .i64 a, .int .i64 b, .int .i64 rs, .int .i64 reg] 23 (0, 0))) := (hb3.block _ (Array.getElem?_eq_some_iff.1 HT.out).1).trans HT.out
      clear hb3 x0 x1 x2 x3 y0 y1 y2 y3 f0 f1 f2 f3 v0 v1 v2 v3
      obtain ⟨v0, v1, v2, v3⟩ := four_cells HT3.out
      obtain ⟨h0, h1, h2, h3⟩ := four_frozen HT3.out
      have m1 : wrap64 (a + 1) = a + 1 := by unfold wrap64; omega
      go_upto_region 8 with fail
      have HS4 : Hid (Sd w (w.heap.size + 1) _ (w3.setCell ⟨w1.heap.size, 0, none⟩ (.int .i64 (a + 1)))) := sd_past (sd2_right HS3.out) (Nat.ne_of_lt HLT.out) (Nat.le_of_lt (Nat.lt_of_succ_lt HLT.out))
      have HT4 : Hid ((w3.setCell ⟨w1.heap.size, 0, none⟩ (.int .i64 (a + 1))).heap[w1.heap.size]? = some (.cells #[.int .i64 (a + 1), .int .i64 b, .int .i64 rs, .int .i64 reg] 23 (0, 0))) := stored_at0 HT3.out
      generalize w3.setCell ⟨w1.heap.size, 0, none⟩ (.int .i64 (a + 1)) = w4 at *
      clear v0 v1 v2 v3 h0 h1 h2 h3
      obtain ⟨v0, v1, v2, v3⟩ := four_cells HT4.out
      obtain ⟨y0, y1, y2, y3⟩ := four_cells HS4.out.1
      obtain ⟨f0, f1, f2, f3⟩ := four_frozen HS4.out.1
      go_wp2_with fail
      (try simp only [Exit.inBlock, Exit.then])
      refine bodyPost_ret (results_row2 rfl _ _ (w.heap.size + 1) _ _ (0, 0) _ rfl (stored HS4.out.1) Tryd.underlying23 rfl (by kernel_rfl)) rfl ?_
      exact ⟨rfl, sd4_res HS4.out (by omega)⟩
theorem upgrade_ways (l : Sb.L) : (decide (Mg.may l) = false ∧ Mg.upgrade l = ⟨Sb.L0, 4⟩) ∨ (decide (Mg.may l) = true ∧ (l.ver == 2) = true ∧ Mg.upgrade l = ⟨Sb.L0, 10⟩) ∨
    (decide (Mg.may l) = true ∧ (l.ver == 2) = false ∧ Mg.upgrade l = ⟨⟨l.id + 1, 2, l.rs, l.reg⟩, 0⟩ ∧ 1 ≤ l.id ∧ l.id ≤ 4294967293) := by
  unfold Mg.upgrade
  by_cases h1 : Mg.may l
  · rw [if_pos h1]
    by_cases h2 : l.ver = 2
    · exact .inr (.inl ⟨decide_eq_true h1, by rw [h2]; rfl, by rw [if_pos h2]⟩)
    · exact .inr (.inr ⟨decide_eq_true h1, beq_eq_false_iff_ne.2 h2, by rw [if_neg h2], h1.1.1.1, h1.2⟩)
  · exact .inl ⟨decide_eq_false h1, by rw [if_neg h1]⟩
theorem stored_at01 {w : World} {r : Nat} {a b c d a' b' : Value} {t : TypeId} (h : w.heap[r]? = some (.cells #[a, b, c, d] t (0, 0))) : ((w.setCell ⟨r, 0, none⟩ a').setCell ⟨r, 1, none⟩ b').heap[r]? = some (.cells #[a', b', c, d] t (0, 0)) := by
  simp [World.setCell, Array.getElem?_modify, h]
set_option maxHeartbeats 2000000 in
theorem plupgrade_any (a b c d : Int) (w : World) :
    Calls Tryd.prog 21 #[.agg #[.int .i64 a, .int .i64 b, .int .i64 c, .int .i64 d]] w (MgIs w (Mg.upgrade ⟨a, b, c, d⟩)) := by
  have CM := Lib.hid (fun W => plmay_any a b c d W)
  have hw := upgrade_ways ⟨a, b, c, d⟩
  simp only at hw
  generalize decide (Mg.may ⟨a, b, c, d⟩) = t0 at *
  generalize Mg.upgrade ⟨a, b, c, d⟩ = x at *
  have HS0 := Lib.hid (sd2_new w #[.int .i64 a, .int .i64 b, .int .i64 c, .int .i64 d] #[.int .i64 0, .int .i64 0, .int .i64 0, .int .i64 0] 23 23)
  unfold MgIs
  rcases hw with ⟨rfl, rfl⟩ | ⟨rfl, g2, rfl⟩ | ⟨rfl, g2, rfl, g0, g1⟩
  all_goals
    go_enter Tryd.func21, Tryd.ntmps21
    go_upto_region 1 with fail
    generalize (w.alloc (.cells #[.int .i64 a, .int .i64 b, .int .i64 c, .int .i64 d] 23)).alloc (.cells #[.int .i64 0, .int .i64 0, .int .i64 0, .int .i64 0] 23) = w0 at *
    obtain ⟨z0, z1, z2, z3⟩ := four_cells HS0.out.1
    go_wp2_with fail
    refine (CM.out _).mono ?_
    rintro r w1 ⟨rfl, hb1⟩
    have HS1 := Lib.hid (HS0.out.next hb1 (by rfl) (by rfl) (by rfl) (by rfl))
    clear hb1 z0 z1 z2 z3
    obtain ⟨x0, x1, x2, x3⟩ := four_cells HS1.out.1
    obtain ⟨h0, h1, h2, h3⟩ := four_frozen HS1.out.1
  · obtain ⟨y0, y1, y2, y3⟩ := four_cells HS1.out.2.1
    obtain ⟨f0, f1, f2, f3⟩ := four_frozen HS1.out.2.1
    go_wp2_with fail
    (try simp only [Exit.inBlock, Exit.then])
    refine bodyPost_ret (results_row2 rfl _ _ (w.heap.size + 1) _ _ (0, 0) _ rfl (stored HS1.out.2.1) Tryd.underlying23 rfl (by kernel_rfl)) rfl ?_
    exact ⟨rfl, sd4_res (sd2_right HS1.out) (by omega)⟩
  · obtain ⟨y0, y1, y2, y3⟩ := four_cells HS1.out.2.1
    obtain ⟨f0, f1, f2, f3⟩ := four_frozen HS1.out.2.1
    go_wp2_with fail
    (try simp only [Exit.inBlock, Exit.then])
    refine bodyPost_ret (results_row2 rfl _ _ (w.heap.size + 1) _ _ (0, 0) _ rfl (stored HS1.out.2.1) Tryd.underlying23 rfl (by kernel_rfl)) rfl ?_
    exact ⟨rfl, sd4_res (sd2_right HS1.out) (by omega)⟩
  · have m1 : wrap64 (a + 1) = a + 1 := by unfold wrap64; omega
    go_upto_region 7 with fail
    have HS4 : Hid (Sd w (w.heap.size + 1) _ ((w1.setCell ⟨w.heap.size, 0, none⟩ (.int .i64 (a + 1))).setCell ⟨w.heap.size, 1, none⟩ (.int .i64 2))) := sd_past (sd_past (sd2_right HS1.out) (by omega) (Nat.le_refl _)) (by omega) (Nat.le_refl _)
    have HT4 : Hid (((w1.setCell ⟨w.heap.size, 0, none⟩ (.int .i64 (a + 1))).setCell ⟨w.heap.size, 1, none⟩ (.int .i64 2)).heap[w.heap.size]? = some (.cells #[.int .i64 (a + 1), .int .i64 2, .int .i64 c, .int .i64 d] 23 (0, 0))) := stored_at01 HS1.out.1
    generalize (w1.setCell ⟨w.heap.size, 0, none⟩ (.int .i64 (a + 1))).setCell ⟨w.heap.size, 1, none⟩ (.int .i64 2) = w4 at *
    clear x0 x1 x2 x3 h0 h1 h2 h3
    obtain ⟨v0, v1, v2, v3⟩ := four_cells HT4.out
    obtain ⟨y0, y1, y2, y3⟩ := four_cells HS4.out.1
    obtain ⟨f0, f1, f2, f3⟩ := four_frozen HS4.out.1
    go_wp2_with fail
    (try simp only [Exit.inBlock, Exit.then])
    refine bodyPost_ret (results_row2 rfl _ _ (w.heap.size + 1) _ _ (0, 0) _ rfl (stored HS4.out.1) Tryd.underlying23 rfl (by kernel_rfl)) rfl ?_
    exact ⟨rfl, sd4_res HS4.out (by omega)⟩
end Go.Proofs.YtjlakkfbeijnbaaDoor
