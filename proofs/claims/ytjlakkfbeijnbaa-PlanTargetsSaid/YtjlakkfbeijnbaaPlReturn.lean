/-
  The walks of plan.Return and of the reference's, and of the reference's Resize.
-/
import Derived.Test.YtjlakkfbeijnbaaPlResize
namespace Go.Proofs.Ytjlakkfbeijnbaa
open Go.RowKit
theorem sd3_new (w : World) (cs cs' cs2 : Array Value) (t t' t2 : TypeId) : Sd3 w (.cells cs t (0, 0)) (.cells cs' t' (0, 0)) (.cells cs2 t2 (0, 0)) (((w.alloc (.cells cs t)).alloc (.cells cs' t')).alloc (.cells cs2 t2)) := by
  obtain ⟨h0, h1, h2⟩ := sd2_new w cs cs' t t'
  have e : ((w.alloc (.cells cs t)).alloc (.cells cs' t')).heap.size = w.heap.size + 2 := by simp
  refine ⟨(heap_alloc_old _ _ (by omega)).trans h0, (heap_alloc_old _ _ (by omega)).trans h1, ?_, h2.alloc h2.size _⟩
  have := heap_alloc_new ((w.alloc (.cells cs t)).alloc (.cells cs' t')) (.cells cs2 t2)
  rwa [e] at this
theorem sd3_a {w w1 : World} {o0 o1 o2 : Obj} (h : Sd3 w o0 o1 o2 w1) : Sd w w.heap.size o0 w1 := ⟨h.1, h.2.2.2⟩
theorem sd3_b {w w1 : World} {o0 o1 o2 : Obj} (h : Sd3 w o0 o1 o2 w1) : Sd w (w.heap.size + 1) o1 w1 := ⟨h.2.1, h.2.2.2⟩
theorem sd3_c {w w1 : World} {o0 o1 o2 : Obj} (h : Sd3 w o0 o1 o2 w1) : Sd w (w.heap.size + 2) o2 w1 := ⟨h.2.2.1, h.2.2.2⟩
theorem return_ways (l m : Sb.L) : (decide (Mg.may l) = false ∧ Mg.back l m = ⟨Sb.L0, 4⟩) ∨ (decide (Mg.may l) = true ∧ decide (Mg.may m) = false ∧ Mg.back l m = ⟨Sb.L0, 4⟩) ∨
    (decide (Mg.may l) = true ∧ decide (Mg.may m) = true ∧ Mg.back l m = ⟨⟨m.id + 1, l.ver, l.rs, l.reg⟩, 0⟩ ∧ 1 ≤ m.id ∧ m.id ≤ 4294967293) := by
  unfold Mg.back
  by_cases h1 : Mg.may l
  · by_cases h2 : Mg.may m
    · exact .inr (.inr ⟨decide_eq_true h1, decide_eq_true h2, by rw [if_pos ⟨h1, h2⟩], h2.1.1.1, h2.2⟩)
    · exact .inr (.inl ⟨decide_eq_true h1, decide_eq_false h2, by rw [if_neg (fun k => h2 k.2)]⟩)
  · exact .inl ⟨decide_eq_false h1, by rw [if_neg (fun k => h1 k.1)]⟩
set_option maxHeartbeats 2000000 in
theorem plreturn_any (a b c d e f g h : Int) (w : World) :
    Calls Try.prog 11 #[.agg #[.int .i64 a, .int .i64 b, .int .i64 c, .int .i64 d], .agg #[.int .i64 e, .int .i64 f, .int .i64 g, .int .i64 h]] w (MgIs w (Mg.back ⟨a, b, c, d⟩ ⟨e, f, g, h⟩)) := by
  have CM := Lib.hid (fun W => plmay_any a b c d W)
  have CT := Lib.hid (fun W => plmay_any e f g h W)
  have hw := return_ways ⟨a, b, c, d⟩ ⟨e, f, g, h⟩
  simp only at hw
  generalize decide (Mg.may ⟨a, b, c, d⟩) = t0 at *
  generalize decide (Mg.may ⟨e, f, g, h⟩) = t1 at *
  generalize Mg.back ⟨a, b, c, d⟩ ⟨e, f, g, h⟩ = x at *
  have HS0 := Lib.hid (sd3_new w #[.int .i64 a, .int .i64 b, .int .i64 c, .int .i64 d] #[.int .i64 e, .int .i64 f, .int .i64 g, .int .i64 h] #[.int .i64 0, .int .i64 0, .int .i64 0, .int .i64 0] 23 23 23)
  unfold MgIs
  rcases hw with ⟨rfl, rfl⟩ | ⟨rfl, rfl, rfl⟩ | ⟨rfl, rfl, rfl, g0, g1⟩
  all_goals
    go_enter Try.func11, Try.ntmps11
    go_upto_region 1 with fail
    generalize ((w.alloc (.cells #[.int .i64 a, .int .i64 b, .int .i64 c, .int .i64 d] 23)).alloc (.cells #[.int .i64 e, .int .i64 f, .int .i64 g, .int .i64 h] 23)).alloc (.cells #[.int .i64 0, .int .i64 0, .int .i64 0, .int .i64 0] 23) = w0 at *
    obtain ⟨z0, z1, z2, z3⟩ := four_cells HS0.out.1
    go_wp2_with fail
    refine (CM.out _).mono ?_
    rintro r w1 ⟨rfl, hb1⟩
    have HS1 := Lib.hid (HS0.out.next hb1 (by rfl) (by rfl) (by rfl) (by rfl))
    clear hb1 z0 z1 z2 z3
  · obtain ⟨y0, y1, y2, y3⟩ := four_cells HS1.out.2.2.1
    obtain ⟨f0, f1, f2, f3⟩ := four_frozen HS1.out.2.2.1
    go_wp2_with fail
    (try simp only [Exit.inBlock, Exit.then])
    refine bodyPost_ret (results_row2 rfl _ _ (w.heap.size + 2) _ _ (0, 0) _ rfl (stored HS1.out.2.2.1) Try.underlying23 rfl (by kernel_rfl)) rfl ?_
    exact ⟨rfl, sd4_res (sd3_c HS1.out) (by omega)⟩
  · obtain ⟨x0, x1, x2, x3⟩ := four_cells HS1.out.2.1
    go_wp2_with fail
    refine (CT.out _).mono ?_
    rintro r w2 ⟨rfl, hb2⟩
    have HS2 := Lib.hid (HS1.out.next hb2 (by rfl) (by rfl) (by rfl) (by rfl))
    clear hb2 x0 x1 x2 x3
    obtain ⟨y0, y1, y2, y3⟩ := four_cells HS2.out.2.2.1
    obtain ⟨f0, f1, f2, f3⟩ := four_frozen HS2.out.2.2.1
    go_wp2_with fail
    (try simp only [Exit.inBlock, Exit.then])
    refine bodyPost_ret (results_row2 rfl _ _ (w.heap.size + 2) _ _ (0, 0) _ rfl (stored HS2.out.2.2.1) Try.underlying23 rfl (by kernel_rfl)) rfl ?_
    exact ⟨rfl, sd4_res (sd3_c HS2.out) (by omega)⟩
  · obtain ⟨x0, x1, x2, x3⟩ := four_cells HS1.out.2.1
    go_wp2_with fail
    refine (CT.out _).mono ?_
    rintro r w2 ⟨rfl, hb2⟩
    have HS2 := Lib.hid (HS1.out.next hb2 (by rfl) (by rfl) (by rfl) (by rfl))
    clear hb2 x0 x1 x2 x3
    obtain ⟨x0, x1, x2, x3⟩ := four_cells HS2.out.2.1
    obtain ⟨z0, z1, z2, z3⟩ := four_cells HS2.out.1
    obtain ⟨h0, h1, h2, h3⟩ := four_frozen HS2.out.1
    have m1 : wrap64 (e + 1) = e + 1 := by unfold wrap64; omega
    go_upto_region 4 with fail
    have HS4 : Hid (Sd w (w.heap.size + 2) _ (w2.setCell ⟨w.heap.size, 0, none⟩ (.int .i64 (e + 1)))) := sd_past (sd3_c HS2.out) (by omega) (Nat.le_refl _)
    have HT4 : Hid ((w2.setCell ⟨w.heap.size, 0, none⟩ (.int .i64 (e + 1))).heap[w.heap.size]? = some (.cells #[.int .i64 (e + 1), .int .i64 b, .int .i64 c, .int .i64 d] 23 (0, 0))) := stored_at0 HS2.out.1
    generalize w2.setCell ⟨w.heap.size, 0, none⟩ (.int .i64 (e + 1)) = w4 at *
    clear x0 x1 x2 x3 z0 z1 z2 z3 h0 h1 h2 h3
    obtain ⟨v0, v1, v2, v3⟩ := four_cells HT4.out
    obtain ⟨y0, y1, y2, y3⟩ := four_cells HS4.out.1
    obtain ⟨f0, f1, f2, f3⟩ := four_frozen HS4.out.1
    go_wp2_with fail
    (try simp only [Exit.inBlock, Exit.then])
    refine bodyPost_ret (results_row2 rfl _ _ (w.heap.size + 2) _ _ (0, 0) _ rfl (stored HS4.out.1) Try.underlying23 rfl (by kernel_rfl)) rfl ?_
    exact ⟨rfl, sd4_res HS4.out (by omega)⟩
set_option maxHeartbeats 2000000 in
theorem refplreturn_any (a b c d e f g h : Int) (w : World) :
    Calls Try.prog 12 #[.agg #[.int .i64 a, .int .i64 b, .int .i64 c, .int .i64 d], .agg #[.int .i64 e, .int .i64 f, .int .i64 g, .int .i64 h]] w (MgIs w (Mg.back ⟨a, b, c, d⟩ ⟨e, f, g, h⟩)) := by
  have CM := Lib.hid (fun W => refplmay_any a b c d W)
  have CT := Lib.hid (fun W => refplmay_any e f g h W)
  have hw := return_ways ⟨a, b, c, d⟩ ⟨e, f, g, h⟩
  simp only at hw
  generalize decide (Mg.may ⟨a, b, c, d⟩) = t0 at *
  generalize decide (Mg.may ⟨e, f, g, h⟩) = t1 at *
  generalize Mg.back ⟨a, b, c, d⟩ ⟨e, f, g, h⟩ = x at *
  have HS0 := Lib.hid (sd3_new w #[.int .i64 a, .int .i64 b, .int .i64 c, .int .i64 d] #[.int .i64 e, .int .i64 f, .int .i64 g, .int .i64 h] #[.int .i64 0, .int .i64 0, .int .i64 0, .int .i64 0] 23 23 23)
  unfold MgIs
  rcases hw with ⟨rfl, rfl⟩ | ⟨rfl, rfl, rfl⟩ | ⟨rfl, rfl, rfl, g0, g1⟩
  all_goals
    go_enter Try.func12, Try.ntmps12
    go_upto_region 1 with fail
    generalize ((w.alloc (.cells #[.int .i64 a, .int .i64 b, .int .i64 c, .int .i64 d] 23)).alloc (.cells #[.int .i64 e, .int .i64 f, .int .i64 g, .int .i64 h] 23)).alloc (.cells #[.int .i64 0, .int .i64 0, .int .i64 0, .int .i64 0] 23) = w0 at *
    obtain ⟨z0, z1, z2, z3⟩ := four_cells HS0.out.1
    go_wp2_with fail
    refine (CM.out _).mono ?_
    rintro r w1 ⟨rfl, hb1⟩
    have HS1 := Lib.hid (HS0.out.next hb1 (by rfl) (by rfl) (by rfl) (by rfl))
    clear hb1 z0 z1 z2 z3
  · obtain ⟨y0, y1, y2, y3⟩ := four_cells HS1.out.2.2.1
    obtain ⟨f0, f1, f2, f3⟩ := four_frozen HS1.out.2.2.1
    go_wp2_with fail
    (try simp only [Exit.inBlock, Exit.then])
    refine bodyPost_ret (results_row2 rfl _ _ (w.heap.size + 2) _ _ (0, 0) _ rfl (stored HS1.out.2.2.1) Try.underlying23 rfl (by kernel_rfl)) rfl ?_
    exact ⟨rfl, sd4_res (sd3_c HS1.out) (by omega)⟩
  · obtain ⟨x0, x1, x2, x3⟩ := four_cells HS1.out.2.1
    go_wp2_with fail
    refine (CT.out _).mono ?_
    rintro r w2 ⟨rfl, hb2⟩
    have HS2 := Lib.hid (HS1.out.next hb2 (by rfl) (by rfl) (by rfl) (by rfl))
    clear hb2 x0 x1 x2 x3
    obtain ⟨y0, y1, y2, y3⟩ := four_cells HS2.out.2.2.1
    obtain ⟨f0, f1, f2, f3⟩ := four_frozen HS2.out.2.2.1
    go_wp2_with fail
    (try simp only [Exit.inBlock, Exit.then])
    refine bodyPost_ret (results_row2 rfl _ _ (w.heap.size + 2) _ _ (0, 0) _ rfl (stored HS2.out.2.2.1) Try.underlying23 rfl (by kernel_rfl)) rfl ?_
    exact ⟨rfl, sd4_res (sd3_c HS2.out) (by omega)⟩
  · obtain ⟨x0, x1, x2, x3⟩ := four_cells HS1.out.2.1
    go_wp2_with fail
    refine (CT.out _).mono ?_
    rintro r w2 ⟨rfl, hb2⟩
    have HS2 := Lib.hid (HS1.out.next hb2 (by rfl) (by rfl) (by rfl) (by rfl))
    clear hb2 x0 x1 x2 x3
    obtain ⟨x0, x1, x2, x3⟩ := four_cells HS2.out.2.1
    obtain ⟨z0, z1, z2, z3⟩ := four_cells HS2.out.1
    obtain ⟨h0, h1, h2, h3⟩ := four_frozen HS2.out.1
    have m1 : wrap64 (e + 1) = e + 1 := by unfold wrap64; omega
    go_upto_region 4 with fail
    have HS4 : Hid (Sd w (w.heap.size + 2) _ (w2.setCell ⟨w.heap.size, 0, none⟩ (.int .i64 (e + 1)))) := sd_past (sd3_c HS2.out) (by omega) (Nat.le_refl _)
    have HT4 : Hid ((w2.setCell ⟨w.heap.size, 0, none⟩ (.int .i64 (e + 1))).heap[w.heap.size]? = some (.cells #[.int .i64 (e + 1), .int .i64 b, .int .i64 c, .int .i64 d] 23 (0, 0))) := stored_at0 HS2.out.1
    generalize w2.setCell ⟨w.heap.size, 0, none⟩ (.int .i64 (e + 1)) = w4 at *
    clear x0 x1 x2 x3 z0 z1 z2 z3 h0 h1 h2 h3
    obtain ⟨v0, v1, v2, v3⟩ := four_cells HT4.out
    obtain ⟨y0, y1, y2, y3⟩ := four_cells HS4.out.1
    obtain ⟨f0, f1, f2, f3⟩ := four_frozen HS4.out.1
    go_wp2_with fail
    (try simp only [Exit.inBlock, Exit.then])
    refine bodyPost_ret (results_row2 rfl _ _ (w.heap.size + 2) _ _ (0, 0) _ rfl (stored HS4.out.1) Try.underlying23 rfl (by kernel_rfl)) rfl ?_
    exact ⟨rfl, sd4_res HS4.out (by omega)⟩
theorem refresize_ways (l : Sb.L) (s rs reg : Int) : (decide (Mg.may l) = false ∧ Mg.resize l s rs reg = ⟨Sb.L0, 4⟩) ∨
    (decide (Mg.may l) = true ∧ decide (Sb.form ⟨l.id + 1, l.ver, rs, reg⟩) = false ∧ Mg.resize l s rs reg = ⟨Sb.L0, 10⟩) ∨
    (decide (Mg.may l) = true ∧ decide (Sb.form ⟨l.id + 1, l.ver, rs, reg⟩) = true ∧ decide (s < 74 + reg * rs) = true ∧ Mg.resize l s rs reg = ⟨Sb.L0, 10⟩) ∨
    (decide (Mg.may l) = true ∧ decide (Sb.form ⟨l.id + 1, l.ver, rs, reg⟩) = true ∧ decide (s < 74 + reg * rs) = false ∧ (rs == l.rs) = true ∧ (reg == l.reg) = true ∧ Mg.resize l s rs reg = ⟨Sb.L0, 10⟩) ∨
    (decide (Mg.may l) = true ∧ decide (Sb.form ⟨l.id + 1, l.ver, rs, reg⟩) = true ∧ decide (s < 74 + reg * rs) = false ∧ (rs == l.rs) = true ∧ (reg == l.reg) = false ∧ Mg.resize l s rs reg = ⟨⟨l.id + 1, l.ver, rs, reg⟩, 0⟩) ∨
    (decide (Mg.may l) = true ∧ decide (Sb.form ⟨l.id + 1, l.ver, rs, reg⟩) = true ∧ decide (s < 74 + reg * rs) = false ∧ (rs == l.rs) = false ∧ Mg.resize l s rs reg = ⟨⟨l.id + 1, l.ver, rs, reg⟩, 0⟩) := by
  unfold Mg.resize
  by_cases h1 : Mg.may l
  · rw [if_pos h1]
    by_cases h2 : Sb.form ⟨l.id + 1, l.ver, rs, reg⟩
    · by_cases h3 : s < 74 + reg * rs
      · have hn : ¬ Mg.fits l s rs reg := fun k => by have := k.2.1; omega
        exact .inr (.inr (.inl ⟨decide_eq_true h1, decide_eq_true h2, decide_eq_true h3, by rw [if_neg hn]⟩))
      · by_cases h4 : rs = l.rs
        · by_cases h5 : reg = l.reg
          · have hn : ¬ Mg.fits l s rs reg := fun k => k.2.2 ⟨h4, h5⟩
            exact .inr (.inr (.inr (.inl ⟨decide_eq_true h1, decide_eq_true h2, decide_eq_false h3, beq_iff_eq.2 h4, beq_iff_eq.2 h5, by rw [if_neg hn]⟩)))
          · have hy : Mg.fits l s rs reg := ⟨h2, by omega, fun k => h5 k.2⟩
            exact .inr (.inr (.inr (.inr (.inl ⟨decide_eq_true h1, decide_eq_true h2, decide_eq_false h3, beq_iff_eq.2 h4, beq_eq_false_iff_ne.2 h5, by rw [if_pos hy]; rfl⟩))))
        · have hy : Mg.fits l s rs reg := ⟨h2, by omega, fun k => h4 k.1⟩
          exact .inr (.inr (.inr (.inr (.inr ⟨decide_eq_true h1, decide_eq_true h2, decide_eq_false h3, beq_eq_false_iff_ne.2 h4, by rw [if_pos hy]; rfl⟩))))
    · have hn : ¬ Mg.fits l s rs reg := fun k => h2 k.1
      exact .inr (.inl ⟨decide_eq_true h1, decide_eq_false h2, by rw [if_neg hn]⟩)
  · exact .inl ⟨decide_eq_false h1, by rw [if_neg h1]⟩
set_option maxHeartbeats 2000000 in
theorem refplresize_any (a b c d s rs reg : Int) (w : World) :
    Calls Try.prog 7 #[.agg #[.int .i64 a, .int .i64 b, .int .i64 c, .int .i64 d], .int .i64 s, .int .i64 rs, .int .i64 reg] w (MgIs w (Mg.resize ⟨a, b, c, d⟩ s rs reg)) := by
  have CM := Lib.hid (fun W => refplmay_any a b c d W)
  have CF := Lib.hid (fun W => refsbform_any (a + 1) b rs reg W)
  have hw := refresize_ways ⟨a, b, c, d⟩ s rs reg
  have HA : Hid (decide (Mg.may ⟨a, b, c, d⟩) = true → wrap64 (a + 1) = a + 1) := fun h => by
    have h1 := of_decide_eq_true h
    have h2 := h1.1.1
    have h3 := h1.2
    simp only at h2 h3
    unfold wrap64; omega
  have HM : Hid (decide (Sb.form ⟨a + 1, b, rs, reg⟩) = true → wrap64 (reg * rs) = reg * rs ∧ wrap64 (74 + reg * rs) = 74 + reg * rs) := fun h => by
    have h1 := form_small (of_decide_eq_true h)
    constructor <;> (unfold wrap64; omega)
  simp only at hw
  generalize decide (Mg.may ⟨a, b, c, d⟩) = t0 at *
  generalize decide (Sb.form ⟨a + 1, b, rs, reg⟩) = t1 at *
  generalize Mg.resize ⟨a, b, c, d⟩ s rs reg = x at *
  have HS0 := Lib.hid (sd2_new w #[.int .i64 a, .int .i64 b, .int .i64 c, .int .i64 d] #[.int .i64 0, .int .i64 0, .int .i64 0, .int .i64 0] 23 23)
  unfold MgIs
  rcases hw with ⟨rfl, rfl⟩ | hw
  · go_enter Try.func7, Try.ntmps7
    go_upto_region 1 with fail
    generalize (w.alloc (.cells #[.int .i64 a, .int .i64 b, .int .i64 c, .int .i64 d] 23)).alloc (.cells #[.int .i64 0, .int .i64 0, .int .i64 0, .int .i64 0] 23) = w0 at *
    obtain ⟨z0, z1, z2, z3⟩ := four_cells HS0.out.1
    go_wp2_with fail
    refine (CM.out _).mono ?_
    rintro r w1 ⟨rfl, hb1⟩
    have HS1 := Lib.hid (HS0.out.next hb1 (by rfl) (by rfl) (by rfl) (by rfl))
    clear hb1
    obtain ⟨y0, y1, y2, y3⟩ := four_cells HS1.out.2.1
    obtain ⟨f0, f1, f2, f3⟩ := four_frozen HS1.out.2.1
    go_wp2_with fail
    (try simp only [Exit.inBlock, Exit.then])
    refine bodyPost_ret (results_row2 rfl _ _ (w.heap.size + 1) _ _ (0, 0) _ rfl (stored HS1.out.2.1) Try.underlying23 rfl (by kernel_rfl)) rfl ?_
    exact ⟨rfl, sd4_res (sd2_right HS1.out) (by omega)⟩
  · have ht0 : t0 = true := by rcases hw with h | h | h | h | h <;> exact h.1
    subst ht0
    have m0 := HA.out rfl
    clear HA
    go_enter Try.func7, Try.ntmps7
    go_upto_region 1 with fail
    generalize (w.alloc (.cells #[.int .i64 a, .int .i64 b, .int .i64 c, .int .i64 d] 23)).alloc (.cells #[.int .i64 0, .int .i64 0, .int .i64 0, .int .i64 0] 23) = w0 at *
    obtain ⟨z0, z1, z2, z3⟩ := four_cells HS0.out.1
    go_wp2_with fail
    refine (CM.out _).mono ?_
    rintro r w1 ⟨rfl, hb1⟩
    have HS1 := Lib.hid (HS0.out.next hb1 (by rfl) (by rfl) (by rfl) (by rfl))
    clear hb1 z0 z1 z2 z3
    obtain ⟨z0, z1, z2, z3⟩ := four_cells HS1.out.1
    go_upto_region 4 with fail
    have HT : Hid ((w1.alloc (.cells #[.int .i64 (a + 1), .int .i64 b, .int .i64 rs, .int .i64 reg] 23)).heap[w1.heap.size]? = some (.cells #[.int .i64 (a + 1), .int .i64 b, .int .i64 rs, .int .i64 reg] 23 (0, 0))) := heap_alloc_new _ _
    have HS2 : Hid (Sd2 w _ _ (w1.alloc (.cells #[.int .i64 (a + 1), .int .i64 b, .int .i64 rs, .int .i64 reg] 23))) := HS1.out.next ((Below.refl _ w1).alloc (Nat.le_refl _) _) rfl rfl rfl rfl
    clear HS0 CM z0 z1 z2 z3
    generalize w1.alloc (.cells #[.int .i64 (a + 1), .int .i64 b, .int .i64 rs, .int .i64 reg] 23) = w2 at *
    obtain ⟨v0, v1, v2, v3⟩ := four_cells HT.out
    go_wp2_with fail
    refine (CF.out _).mono ?_
    rintro r w3 ⟨rfl, hb3⟩
    have HS3 := Lib.hid (HS2.out.next hb3 (by rfl) (by rfl) (by rfl) (by rfl))
    have HT3 : Hid (w3.heap[w1.heap.size]? = some (.cells #[.int .i64 (a + 1), .int .i64 b, .int .i64 rs, .int .i64 reg] 23 (0, 0))) := (hb3.block _ (Array.getElem?_eq_some_iff.1 HT.out).1).trans HT.out
    clear hb3 v0 v1 v2 v3
    obtain ⟨v0, v1, v2, v3⟩ := four_cells HT3.out
    obtain ⟨x0, x1, x2, x3⟩ := four_cells HS3.out.1
    obtain ⟨y0, y1, y2, y3⟩ := four_cells HS3.out.2.1
    obtain ⟨f0, f1, f2, f3⟩ := four_frozen HS3.out.2.1
    rcases hw with ⟨-, rfl, rfl⟩ | ⟨-, rfl, g0, rfl⟩ | ⟨-, rfl, g0, g1, g2, rfl⟩ | ⟨-, rfl, g0, g1, g2, rfl⟩ | ⟨-, rfl, g0, g1, rfl⟩
    all_goals
      try obtain ⟨m1, m2⟩ := HM.out rfl
      clear HM
      go_wp2_with fail
      (try simp only [Exit.inBlock, Exit.then])
      refine bodyPost_ret (results_row2 rfl _ _ (w.heap.size + 1) _ _ (0, 0) _ rfl (stored HS3.out.2.1) Try.underlying23 rfl (by kernel_rfl)) rfl ?_
      exact ⟨rfl, sd4_res (sd2_right HS3.out) (by omega)⟩
end Go.Proofs.Ytjlakkfbeijnbaa
