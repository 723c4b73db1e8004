/-
  The walks of geometry's hasSlot, place, Fits, First and Capacity.
-/
import Derived.Test.YtmkilbogdenljaaGmMath
namespace Go.Proofs.Ytmkilbogdenljaa
open Go.RowKit
theorem gm_int {a b : Int} (h : a = b) : Ending.returned (.int .i64 a) = Ending.returned (.int .i64 b) := by rw [h]
set_option maxHeartbeats 1000000 in
theorem gmplace_any (a b c d s x : Int) (hx : 74 + s * c = x) (h0 : 0 ≤ s * c) (h1 : s * c ≤ 32768) (w : World) :
    Calls Try.prog 60 #[.agg #[.int .i64 a, .int .i64 b, .int .i64 c, .int .i64 d], .int .i64 s] w fun r w' => r = .returned (.int .i64 x) ∧ Below w.heap.size w w' := by
  have m1 : wrap64 (s * c) = s * c := by unfold wrap64; omega
  have m2 : wrap64 (74 + s * c) = 74 + s * c := by unfold wrap64; omega
  have HS0 := Lib.hid (sd_new w #[.int .i64 a, .int .i64 b, .int .i64 c, .int .i64 d] 23)
  subst hx
  go_enter Try.func60, Try.ntmps60
  go_upto_region 1 with fail
  generalize w.alloc (.cells #[.int .i64 a, .int .i64 b, .int .i64 c, .int .i64 d] 23) = w0 at *
  obtain ⟨z0, z1, z2, z3⟩ := sd_cells4 HS0.out
  go_wp2_with fail
  go_ret
  first
    | exact ⟨rfl, HS0.out.2⟩
    | exact ⟨gm_int (by rw [m1, m2]), HS0.out.2⟩
theorem three_ways (t0 t1 : Bool) : t0 = false ∨ (t0 = true ∧ t1 = false) ∨ (t0 = true ∧ t1 = true) := by cases t0 <;> cases t1 <;> simp
set_option maxHeartbeats 1000000 in
theorem gmhas_any (a b c d s : Int) (w : World) :
    Calls Try.prog 59 #[.agg #[.int .i64 a, .int .i64 b, .int .i64 c, .int .i64 d], .int .i64 s] w fun r w' => r = .returned (.bool (decide (Gm.has ⟨a, b, c, d⟩ s))) ∧ Below w.heap.size w w' := by
  have HV : Hid (decide (Gm.has ⟨a, b, c, d⟩ s) = (decide (Sb.form ⟨a, b, c, d⟩) && (decide (0 ≤ s) && decide (s < d)))) := by
    show _ = _
    simp only [← Bool.decide_and]
    rfl
  rw [HV.out]
  clear HV
  have CF := Lib.hid (fun W => sbform_any a b c d W)
  generalize decide (Sb.form ⟨a, b, c, d⟩) = t0 at *
  have HS0 := Lib.hid (sd_new w #[.int .i64 a, .int .i64 b, .int .i64 c, .int .i64 d] 23)
  cases t0
  · go_enter Try.func59, Try.ntmps59
    go_upto_region 1 with fail
    generalize w.alloc (.cells #[.int .i64 a, .int .i64 b, .int .i64 c, .int .i64 d] 23) = w0 at *
    obtain ⟨z0, z1, z2, z3⟩ := sd_cells4 HS0.out
    go_wp2_with fail
    refine (CF.out _).mono ?_
    rintro r w1 ⟨rfl, hb1⟩
    have HS1 := Lib.hid (HS0.out.next hb1 (by rfl) (by rfl) (by rfl) (by rfl))
    clear hb1
    obtain ⟨y0, y1, y2, y3⟩ := four_cells HS1.out.1
    go_wp2_with fail
    go_ret
    exact ⟨rfl, HS1.out.2⟩
  · cases hd : decide (0 ≤ s)
    all_goals
      go_enter Try.func59, Try.ntmps59
      go_upto_region 1 with fail
      generalize w.alloc (.cells #[.int .i64 a, .int .i64 b, .int .i64 c, .int .i64 d] 23) = w0 at *
      obtain ⟨z0, z1, z2, z3⟩ := sd_cells4 HS0.out
      go_wp2_with fail
      refine (CF.out _).mono ?_
      rintro r w1 ⟨rfl, hb1⟩
      have HS1 := Lib.hid (HS0.out.next hb1 (by rfl) (by rfl) (by rfl) (by rfl))
      clear hb1
      obtain ⟨y0, y1, y2, y3⟩ := four_cells HS1.out.1
      go_wp2_with fail
      go_ret
      exact ⟨rfl, HS1.out.2⟩
set_option maxHeartbeats 1000000 in
theorem gmcap_any (a b c d : Int) (w : World) :
    Calls Try.prog 48 #[.agg #[.int .i64 a, .int .i64 b, .int .i64 c, .int .i64 d]] w fun r w' => r = .returned (.int .i64 (Gm.cap ⟨a, b, c, d⟩)) ∧ Below w.heap.size w w' := by
  have CF := Lib.hid (fun W => sbform_any a b c d W)
  have HS0 := Lib.hid (sd_new w #[.int .i64 a, .int .i64 b, .int .i64 c, .int .i64 d] 23)
  by_cases hh : Sb.form ⟨a, b, c, d⟩
  · have HF : Hid (Gm.cap ⟨a, b, c, d⟩ = (c - 1) * 59) := if_pos hh
    have hc := Gm.form_nums hh
    simp only at hc
    rw [HF.out]
    have m1 : wrap64 (c - 1) = c - 1 := by unfold wrap64; omega
    have m2 : wrap64 ((c - 1) * 59) = (c - 1) * 59 := by unfold wrap64; omega
    rw [decide_eq_true hh] at CF
    clear hh HF hc
    go_enter Try.func48, Try.ntmps48
    go_upto_region 1 with fail
    generalize w.alloc (.cells #[.int .i64 a, .int .i64 b, .int .i64 c, .int .i64 d] 23) = w0 at *
    obtain ⟨z0, z1, z2, z3⟩ := sd_cells4 HS0.out
    go_wp2_with fail
    refine (CF.out _).mono ?_
    rintro r w1 ⟨rfl, hb1⟩
    have HS1 := Lib.hid (HS0.out.next hb1 (by rfl) (by rfl) (by rfl) (by rfl))
    clear hb1
    obtain ⟨y0, y1, y2, y3⟩ := four_cells HS1.out.1
    go_wp2_with fail
    go_ret
    first
      | exact ⟨rfl, HS1.out.2⟩
      | exact ⟨gm_int (by first | rw [m2] | rw [m1, m2]), HS1.out.2⟩
  · have HF : Hid (Gm.cap ⟨a, b, c, d⟩ = 0) := if_neg hh
    rw [HF.out]
    rw [decide_eq_false hh] at CF
    clear hh HF
    go_enter Try.func48, Try.ntmps48
    go_upto_region 1 with fail
    generalize w.alloc (.cells #[.int .i64 a, .int .i64 b, .int .i64 c, .int .i64 d] 23) = w0 at *
    obtain ⟨z0, z1, z2, z3⟩ := sd_cells4 HS0.out
    go_wp2_with fail
    refine (CF.out _).mono ?_
    rintro r w1 ⟨rfl, hb1⟩
    have HS1 := Lib.hid (HS0.out.next hb1 (by rfl) (by rfl) (by rfl) (by rfl))
    clear hb1
    go_wp2_with fail
    go_ret
    exact ⟨rfl, HS1.out.2⟩
theorem refpkcap_any (a b c d : Int) (h1 : -1000000 ≤ c) (h2 : c ≤ 1000000) (w : World) :
    Calls Try.prog 38 #[.agg #[.int .i64 a, .int .i64 b, .int .i64 c, .int .i64 d]] w fun r w' => r = .returned (.int .i64 ((c - 1) * 59)) ∧ Below w.heap.size w w' := by
  have m1 : wrap64 (c - 1) = c - 1 := by unfold wrap64; omega
  have m2 : wrap64 ((c - 1) * 59) = (c - 1) * 59 := by unfold wrap64; omega
  have HS0 := Lib.hid (sd_new w #[.int .i64 a, .int .i64 b, .int .i64 c, .int .i64 d] 23)
  go_enter Try.func38, Try.ntmps38
  go_upto_region 1 with fail
  generalize w.alloc (.cells #[.int .i64 a, .int .i64 b, .int .i64 c, .int .i64 d] 23) = w0 at *
  obtain ⟨z0, z1, z2, z3⟩ := sd_cells4 HS0.out
  go_wp2
  go_ret
  first
    | exact ⟨rfl, HS0.out.2⟩
    | exact ⟨gm_int (by first | rw [m2] | rw [m1, m2]), HS0.out.2⟩
end Go.Proofs.Ytmkilbogdenljaa
