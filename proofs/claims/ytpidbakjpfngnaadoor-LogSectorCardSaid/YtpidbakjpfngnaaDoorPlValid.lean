/-
  Words on plan records as values; the walks of plan.isWithin, plan.suitsKind, plan.Valid and of the reference's Valid.
-/
import Derived.Test.YtpidbakjpfngnaaDoorPlAwake
namespace Go.Proofs.YtpidbakjpfngnaaDoor
open Go.RowKit
theorem eight_cells {w : World} {g : Nat} {a b c d e f h j : Value} {t : TypeId} (k : w.heap[g]? = some (.cells #[a, b, c, d, e, f, h, j] t (0, 0))) :
    w.cell? ⟨g, 0, none⟩ = some a ∧ w.cell? ⟨g, 1, none⟩ = some b ∧ w.cell? ⟨g, 2, none⟩ = some c ∧ w.cell? ⟨g, 3, none⟩ = some d ∧ w.cell? ⟨g, 4, none⟩ = some e ∧ w.cell? ⟨g, 5, none⟩ = some f ∧ w.cell? ⟨g, 6, none⟩ = some h ∧ w.cell? ⟨g, 7, none⟩ = some j := by
  refine ⟨?_, ?_, ?_, ?_, ?_, ?_, ?_, ?_⟩ <;> (rw [cell_of_row _ _ _ _ _ _ k]; rfl)
theorem eight_frozen {w : World} {g : Nat} {a b c d e f h j : Value} {t : TypeId} (k : w.heap[g]? = some (.cells #[a, b, c, d, e, f, h, j] t (0, 0))) :
    w.frozen? ⟨g, 0, none⟩ = false ∧ w.frozen? ⟨g, 1, none⟩ = false ∧ w.frozen? ⟨g, 2, none⟩ = false ∧ w.frozen? ⟨g, 3, none⟩ = false ∧ w.frozen? ⟨g, 4, none⟩ = false ∧ w.frozen? ⟨g, 5, none⟩ = false ∧ w.frozen? ⟨g, 6, none⟩ = false ∧ w.frozen? ⟨g, 7, none⟩ = false :=
  ⟨frozen_of_row w g 0 _ t k, frozen_of_row w g 1 _ t k, frozen_of_row w g 2 _ t k, frozen_of_row w g 3 _ t k, frozen_of_row w g 4 _ t k, frozen_of_row w g 5 _ t k, frozen_of_row w g 6 _ t k, frozen_of_row w g 7 _ t k⟩
theorem stored8 {w : World} {r : Nat} {a b c d e f h j a' b' c' d' e' f' h' j' : Value} {t : TypeId} (k : w.heap[r]? = some (.cells #[a, b, c, d, e, f, h, j] t (0, 0))) :
    ((((((((w.setCell ⟨r, 0, none⟩ a').setCell ⟨r, 1, none⟩ b').setCell ⟨r, 2, none⟩ c').setCell ⟨r, 3, none⟩ d').setCell ⟨r, 4, none⟩ e').setCell ⟨r, 5, none⟩ f').setCell ⟨r, 6, none⟩ h').setCell ⟨r, 7, none⟩ j').heap[r]? = some (.cells #[a', b', c', d', e', f', h', j'] t (0, 0)) := by
  simp [World.setCell, Array.getElem?_modify, k]
theorem stored8_grown (w : World) (r : Nat) (a' b' c' d' e' f' h' j' : Value) : w.grownBy ((((((((w.setCell ⟨r, 0, none⟩ a').setCell ⟨r, 1, none⟩ b').setCell ⟨r, 2, none⟩ c').setCell ⟨r, 3, none⟩ d').setCell ⟨r, 4, none⟩ e').setCell ⟨r, 5, none⟩ f').setCell ⟨r, 6, none⟩ h').setCell ⟨r, 7, none⟩ j') (some r) :=
  grown_trans' (grown_trans' (grown_trans' (grown_trans' (grown_trans' (grown_trans' (grown_trans' (grown_set _ _ _ _) (grown_set _ _ _ _)) (grown_set _ _ _ _)) (grown_set _ _ _ _)) (grown_set _ _ _ _)) (grown_set _ _ _ _)) (grown_set _ _ _ _)) (grown_set _ _ _ _)
theorem sd8_res {w w1 : World} {r : Nat} {a b c d e f h j a' b' c' d' e' f' h' j' : Value} {t : TypeId} (k : Sd w r (.cells #[a, b, c, d, e, f, h, j] t (0, 0)) w1) (hr : w.heap.size ≤ r) :
    Below w.heap.size w ((((((((w1.setCell ⟨r, 0, none⟩ a').setCell ⟨r, 1, none⟩ b').setCell ⟨r, 2, none⟩ c').setCell ⟨r, 3, none⟩ d').setCell ⟨r, 4, none⟩ e').setCell ⟨r, 5, none⟩ f').setCell ⟨r, 6, none⟩ h').setCell ⟨r, 7, none⟩ j') :=
  k.2.trans (below_of_grown (stored8_grown _ _ _ _ _ _ _ _ _ _) hr k.2.size)
theorem plwithin_any (n a b : Int) (w : World) : Calls Tryd.prog 58 #[.int .i64 n, .int .i64 a, .int .i64 b] w fun e w' => e = .returned (.bool (decide (a ≤ n ∧ n ≤ b))) ∧ w = w' := by
  rw [Bool.decide_and]
  cases ha : decide (a ≤ n)
  all_goals
    go_enter Tryd.func58, Tryd.ntmps58
    go_wp2
    go_ret
    exact ⟨ret_bool (by simp), rfl⟩
/-- Is the index one of the record's kind? -/
def Pl.suits (k i : Int) : Prop := (k = 1 ∧ i = 0) ∨ (k = 2 ∧ 1 ≤ i ∧ i ≤ 35)
instance (k i : Int) : Decidable (Pl.suits k i) := by unfold Pl.suits; infer_instance
theorem suits_ways (k i : Int) : ((k == 1) = true ∧ decide (Pl.suits k i) = (i == 0)) ∨ ((k == 1) = false ∧ (k == 2) = true ∧ decide (Pl.suits k i) = decide (1 ≤ i ∧ i ≤ 35)) ∨ ((k == 1) = false ∧ (k == 2) = false ∧ decide (Pl.suits k i) = false) := by
  unfold Pl.suits
  by_cases h1 : k = 1
  · refine .inl ⟨beq_iff_eq.2 h1, ?_⟩
    rw [show (i == 0) = decide (i = 0) from rfl]
    exact decide_eq_decide.2 (by omega)
  · by_cases h2 : k = 2
    · exact .inr (.inl ⟨beq_eq_false_iff_ne.2 h1, beq_iff_eq.2 h2, decide_eq_decide.2 (by omega)⟩)
    · exact .inr (.inr ⟨beq_eq_false_iff_ne.2 h1, beq_eq_false_iff_ne.2 h2, decide_eq_false (by omega)⟩)
theorem plsuits_any (k m i t a b c d : Int) (w : World) :
    Calls Tryd.prog 60 #[.agg #[.int .i64 k, .int .i64 m, .int .i64 i, .int .i64 t, .int .i64 a, .int .i64 b, .int .i64 c, .int .i64 d]] w fun r w' => r = .returned (.bool (decide (Pl.suits k i))) ∧ Below w.heap.size w w' := by
  have hw := suits_ways k i
  have CI := Lib.hid (fun W => plwithin_any i 1 35 W)
  generalize decide (Pl.suits k i) = res at *
  generalize decide (1 ≤ i ∧ i ≤ 35) = t1 at *
  have HS0 := Lib.hid (sd_new w #[.int .i64 k, .int .i64 m, .int .i64 i, .int .i64 t, .int .i64 a, .int .i64 b, .int .i64 c, .int .i64 d] 34)
  rcases hw with ⟨h1, rfl⟩ | ⟨h1, h2, rfl⟩ | ⟨h1, h2, rfl⟩
  all_goals
    go_enter Tryd.func60, Tryd.ntmps60
    go_upto_region 1 with fail
    generalize w.alloc (.cells #[.int .i64 k, .int .i64 m, .int .i64 i, .int .i64 t, .int .i64 a, .int .i64 b, .int .i64 c, .int .i64 d] 34) = w0 at *
    obtain ⟨z0, z1, z2, z3, z4, z5, z6, z7⟩ := eight_cells HS0.out.1
    go_wp2_with (go_at_call 58; refine (CI.out _).mono ?_; rintro r w' ⟨rfl, rfl⟩)
    go_ret
    exact ⟨rfl, HS0.out.2⟩
theorem four_ways (t0 t1 t2 : Bool) : t0 = false ∨ (t0 = true ∧ t1 = false) ∨ (t0 = true ∧ t1 = true ∧ t2 = false) ∨ (t0 = true ∧ t1 = true ∧ t2 = true) := by
  cases t0 <;> cases t1 <;> cases t2 <;> simp
theorem plvalid_parts (k m i t a b c d : Int) : decide (Pl.valid ⟨k, m, i, t, ⟨a, b, c, d⟩⟩) = (decide (1 ≤ m ∧ m ≤ 4294967295) && (decide (0 ≤ t ∧ t ≤ 281474976710655) && (decide (Sb.form ⟨a, b, c, d⟩) && decide (Pl.suits k i)))) := by
  simp only [← Bool.decide_and]
  exact decide_eq_decide.2 Iff.rfl
set_option maxHeartbeats 1000000 in
theorem plvalid_any (k m i t a b c d : Int) (w : World) :
    Calls Tryd.prog 41 #[.agg #[.int .i64 k, .int .i64 m, .int .i64 i, .int .i64 t, .int .i64 a, .int .i64 b, .int .i64 c, .int .i64 d]] w fun r w' => r = .returned (.bool (decide (Pl.valid ⟨k, m, i, t, ⟨a, b, c, d⟩⟩))) ∧ Below w.heap.size w w' := by
  rw [plvalid_parts]
  have C0 := Lib.hid (fun W => plwithin_any m 1 4294967295 W)
  have C1 := Lib.hid (fun W => plwithin_any t 0 281474976710655 W)
  have C2 := Lib.hid (fun W => sbform_any a b c d W)
  have C3 := Lib.hid (fun W => plsuits_any k m i t a b c d W)
  generalize decide (1 ≤ m ∧ m ≤ 4294967295) = t0 at *
  generalize decide (0 ≤ t ∧ t ≤ 281474976710655) = t1 at *
  generalize decide (Sb.form ⟨a, b, c, d⟩) = t2 at *
  generalize decide (Pl.suits k i) = t3 at *
  have HS0 := Lib.hid (sd_new w #[.int .i64 k, .int .i64 m, .int .i64 i, .int .i64 t, .int .i64 a, .int .i64 b, .int .i64 c, .int .i64 d] 34)
  rcases four_ways t0 t1 t2 with rfl | ⟨rfl, rfl⟩ | ⟨rfl, rfl, rfl⟩ | ⟨rfl, rfl, rfl⟩
  all_goals
    go_enter Tryd.func41, Tryd.ntmps41
    go_upto_region 1 with fail
    generalize w.alloc (.cells #[.int .i64 k, .int .i64 m, .int .i64 i, .int .i64 t, .int .i64 a, .int .i64 b, .int .i64 c, .int .i64 d] 34) = w0 at *
    obtain ⟨z0, z1, z2, z3, z4, z5, z6, z7⟩ := eight_cells HS0.out.1
    go_wp2_with (go_at_call 58; first
      | (with_reducible refine (C0.out _).mono ?_; rintro r w' ⟨rfl, rfl⟩)
      | (with_reducible refine (C1.out _).mono ?_; rintro r w' ⟨rfl, rfl⟩))
  · go_ret
    exact ⟨rfl, HS0.out.2⟩
  · go_ret
    exact ⟨rfl, HS0.out.2⟩
  all_goals
    refine (C2.out _).mono ?_
    rintro r w1 ⟨rfl, hb1⟩
    have HS1 := Lib.hid (HS0.out.next hb1 (by rfl) (by rfl) (by rfl) (by rfl))
    clear hb1 z0 z1 z2 z3 z4 z5 z6 z7
    obtain ⟨z0, z1, z2, z3, z4, z5, z6, z7⟩ := eight_cells HS1.out.1
    go_wp2_with fail
  · go_ret
    exact ⟨rfl, HS1.out.2⟩
  · refine (C3.out _).mono ?_
    rintro r w2 ⟨rfl, hb2⟩
    have HS2 := Lib.hid (HS1.out.next hb2 (by rfl) (by rfl) (by rfl) (by rfl))
    clear hb2
    go_wp2_with fail
    go_ret
    exact ⟨rfl, HS2.out.2⟩
end Go.Proofs.YtpidbakjpfngnaaDoor
