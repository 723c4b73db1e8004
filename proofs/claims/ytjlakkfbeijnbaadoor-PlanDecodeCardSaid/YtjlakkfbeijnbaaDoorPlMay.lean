/-
  The walks of plan.mayChange and plan.fits, and of the reference's may.
-/
import Derived.Test.YtjlakkfbeijnbaaDoorPlMath
namespace Go.Proofs.YtjlakkfbeijnbaaDoor
open Go.RowKit
set_option maxHeartbeats 1000000 in
theorem plmay_any (a b c d : Int) (w : World) :
    Calls Tryd.prog 37 #[.agg #[.int .i64 a, .int .i64 b, .int .i64 c, .int .i64 d]] w fun r w' => r = .returned (.bool (decide (Mg.may ⟨a, b, c, d⟩))) ∧ Below w.heap.size w w' := by
  have HV : Hid (decide (Mg.may ⟨a, b, c, d⟩) = (decide (Sb.form ⟨a, b, c, d⟩) && decide (a ≤ 4294967293))) := by
    show _ = _
    rw [← Bool.decide_and]
    rfl
  rw [HV.out]
  clear HV
  have CF := Lib.hid (fun W => sbform_any a b c d W)
  generalize decide (Sb.form ⟨a, b, c, d⟩) = t0 at *
  have HS0 := Lib.hid (sd_new w #[.int .i64 a, .int .i64 b, .int .i64 c, .int .i64 d] 23)
  cases t0
  all_goals
    go_enter Tryd.func37, Tryd.ntmps37
    go_upto_region 1 with fail
    generalize w.alloc (.cells #[.int .i64 a, .int .i64 b, .int .i64 c, .int .i64 d] 23) = w0 at *
    obtain ⟨z0, z1, z2, z3⟩ := sd_cells4 HS0.out
    go_wp2_with fail
    refine (CF.out _).mono ?_
    rintro r w1 ⟨rfl, hb1⟩
    have HS1 := Lib.hid (HS0.out.next hb1 (by rfl) (by rfl) (by rfl) (by rfl))
    clear hb1
    obtain ⟨y0, y1, y2, y3⟩ := four_cells HS1.out.1
    go_wp2_with fail
    go_ret
    exact ⟨rfl, HS1.out.2⟩
/-- What fits asks of the numbers. -/
def Mg.room (l : Sb.L) (sec : Int) : Prop := Sb.form l ∧ 74 + l.reg * l.rs ≤ sec
instance (l : Sb.L) (sec : Int) : Decidable (Mg.room l sec) := by unfold Mg.room; infer_instance
theorem room_small {c d : Int} (h : 2 ≤ c ∧ c ≤ 2048 ∧ 4 ≤ d ∧ d ≤ 16) : 0 ≤ d * c ∧ d * c ≤ 32768 := by
  have h1 : d * c ≤ 16 * c := Int.mul_le_mul_of_nonneg_right h.2.2.2 (by omega)
  have h2 : 0 ≤ d * c := Int.mul_nonneg (by omega) (by omega)
  omega
theorem form_small {a b c d : Int} (h : Sb.form ⟨a, b, c, d⟩) : 0 ≤ d * c ∧ d * c ≤ 32768 := by
  obtain ⟨-, -, h3, h4⟩ := h
  have := Sb.pw_le h3
  exact room_small ⟨this.1, this.2, h4.1, h4.2⟩
set_option maxHeartbeats 1000000 in
theorem plfits_any (a b c d s : Int) (w : World) :
    Calls Tryd.prog 38 #[.agg #[.int .i64 a, .int .i64 b, .int .i64 c, .int .i64 d], .int .i64 s] w fun r w' => r = .returned (.bool (decide (Mg.room ⟨a, b, c, d⟩ s))) ∧ Below w.heap.size w w' := by
  have HV : Hid (decide (Mg.room ⟨a, b, c, d⟩ s) = (decide (Sb.form ⟨a, b, c, d⟩) && decide (74 + d * c ≤ s))) := by
    show _ = _
    rw [← Bool.decide_and]
    rfl
  rw [HV.out]
  clear HV
  have CF := Lib.hid (fun W => sbform_any a b c d W)
  have HM : decide (Sb.form ⟨a, b, c, d⟩) = true → wrap64 (d * c) = d * c ∧ wrap64 (74 + d * c) = 74 + d * c := fun h => by
    have h1 := form_small (of_decide_eq_true h)
    constructor <;> (unfold wrap64; omega)
  generalize decide (Sb.form ⟨a, b, c, d⟩) = t0 at *
  have HS0 := Lib.hid (sd_new w #[.int .i64 a, .int .i64 b, .int .i64 c, .int .i64 d] 23)
  cases t0
  all_goals
    try obtain ⟨m1, m2⟩ := HM rfl
    clear HM
    go_enter Tryd.func38, Tryd.ntmps38
    go_upto_region 1 with fail
    generalize w.alloc (.cells #[.int .i64 a, .int .i64 b, .int .i64 c, .int .i64 d] 23) = w0 at *
    obtain ⟨z0, z1, z2, z3⟩ := sd_cells4 HS0.out
    go_wp2_with fail
    refine (CF.out _).mono ?_
    rintro r w1 ⟨rfl, hb1⟩
    have HS1 := Lib.hid (HS0.out.next hb1 (by rfl) (by rfl) (by rfl) (by rfl))
    clear hb1
    obtain ⟨y0, y1, y2, y3⟩ := four_cells HS1.out.1
    go_wp2_with fail
    go_ret
    first
      | exact ⟨rfl, HS1.out.2⟩
      | exact ⟨ret_bool (by rw [m1, m2]; rfl), HS1.out.2⟩
end Go.Proofs.YtjlakkfbeijnbaaDoor
