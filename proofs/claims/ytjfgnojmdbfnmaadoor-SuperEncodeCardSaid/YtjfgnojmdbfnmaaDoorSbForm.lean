/-
  The walks of the two functions that tell whether a layout is well-formed.
-/
import Derived.Test.YtjfgnojmdbfnmaaDoorSbBits
import Derived.Test.YtjfgnojmdbfnmaaDoorSbLog
import Derived.Test.YtjfgnojmdbfnmaaDoorSbWords
import Derived.Deep.DeepCutAuto
import Derived.Deep.CutBlock
namespace Go.Proofs.YtjfgnojmdbfnmaaDoor
open Go.RowKit
theorem sbwithin_any (n a b : Int) (w : World) : Calls Tryd.prog 44 #[.int .i64 n, .int .i64 a, .int .i64 b] w fun e w' => e = .returned (.bool (decide (a ≤ n ∧ n ≤ b))) ∧ w = w' := by
  rw [Bool.decide_and]
  cases ha : decide (a ≤ n)
  all_goals
    go_enter Tryd.func44, Tryd.ntmps44
    go_wp2
    go_ret
    exact ⟨ret_bool (by simp), rfl⟩
theorem five_ways (t0 t1 t2 t3 : Bool) : t0 = false ∨ (t0 = true ∧ t1 = false) ∨ (t0 = true ∧ t1 = true ∧ t2 = false) ∨ (t0 = true ∧ t1 = true ∧ t2 = true ∧ t3 = false) ∨ (t0 = true ∧ t1 = true ∧ t2 = true ∧ t3 = true) := by
  cases t0 <;> cases t1 <;> cases t2 <;> cases t3 <;> simp
theorem sd_cells4 {w W : World} {a b c d : Value} {t : TypeId} (h : Sd w w.heap.size (.cells #[a, b, c, d] t (0, 0)) W) : W.cell? ⟨w.heap.size, 0, none⟩ = some a ∧ W.cell? ⟨w.heap.size, 1, none⟩ = some b ∧ W.cell? ⟨w.heap.size, 2, none⟩ = some c ∧ W.cell? ⟨w.heap.size, 3, none⟩ = some d := four_cells h.1
set_option maxHeartbeats 1000000 in
theorem sbform_any (a b c d : Int) (w : World) :
    Calls Tryd.prog 23 #[.agg #[.int .i64 a, .int .i64 b, .int .i64 c, .int .i64 d]] w fun r w' => r = .returned (.bool (decide (Sb.form ⟨a, b, c, d⟩))) ∧ Below w.heap.size w w' := by
  have HV : Hid (decide (Sb.form ⟨a, b, c, d⟩) = (decide (1 ≤ a ∧ a ≤ 4294967295) && (decide (1 ≤ b ∧ b ≤ 2) && (decide (2 ≤ c ∧ c ≤ 2048) && (decide (Sb.pw c) && decide (4 ≤ d ∧ d ≤ 16)))))) := by
    show _ = _
    simp only [← Bool.decide_and]
    refine decide_eq_decide.2 ⟨fun h => ?_, fun h => ?_⟩
    · exact ⟨h.1, h.2.1, Sb.pw_le h.2.2.1, h.2.2.1, h.2.2.2⟩
    · exact ⟨h.1, h.2.1, h.2.2.2.1, h.2.2.2.2⟩
  rw [HV.out]
  clear HV
  have C0 := Lib.hid (fun W => sbwithin_any a 1 4294967295 W)
  have C1 := Lib.hid (fun W => sbwithin_any b 1 2 W)
  have C2 := Lib.hid (fun W => sbwithin_any c 2 2048 W)
  have C4 := Lib.hid (fun W => sbwithin_any d 4 16 W)
  have C3 : Hid (decide (2 ≤ c ∧ c ≤ 2048) = true → IntKind.u64.wrap c = c ∧ ∀ W, Calls Tryd.prog 45 #[.int .u64 c] W fun e w' => (∃ r : Int, e = .returned (.int .i64 r) ∧ (r == 1) = decide (Sb.pw c)) ∧ W = w') := fun h => by
    have h2 := of_decide_eq_true h
    obtain ⟨n, rfl⟩ := Int.eq_ofNat_of_zero_le (a := c) (by omega)
    exact ⟨by rw [IntKind.wrap_u64]; omega, fun W => onescount_any n (by omega) (by omega) W⟩
  generalize decide (1 ≤ a ∧ a ≤ 4294967295) = t0 at *
  generalize decide (1 ≤ b ∧ b ≤ 2) = t1 at *
  generalize decide (2 ≤ c ∧ c ≤ 2048) = t2 at *
  generalize decide (Sb.pw c) = t3 at *
  generalize decide (4 ≤ d ∧ d ≤ 16) = t4 at *
  have HS0 := Lib.hid (sd_new w #[.int .i64 a, .int .i64 b, .int .i64 c, .int .i64 d] 41)
  rcases five_ways t0 t1 t2 t3 with rfl | ⟨rfl, rfl⟩ | ⟨rfl, rfl, rfl⟩ | ⟨rfl, rfl, rfl, rfl⟩ | ⟨rfl, rfl, rfl, rfl⟩
  all_goals
    try obtain ⟨hw, hoc⟩ := C3.out rfl
    try have HO := Lib.hid hoc
    try clear hoc
    clear C3
    go_enter Tryd.func23, Tryd.ntmps23
    go_upto_region 1 with fail
    generalize w.alloc (.cells #[.int .i64 a, .int .i64 b, .int .i64 c, .int .i64 d] 41) = w0 at *
    obtain ⟨z0, z1, z2, z3⟩ := sd_cells4 HS0.out
    go_wp2_with (first
      | (go_at_call 44; first
          | (with_reducible refine (C0.out _).mono ?_; rintro r w' ⟨rfl, rfl⟩)
          | (with_reducible refine (C1.out _).mono ?_; rintro r w' ⟨rfl, rfl⟩)
          | (with_reducible refine (C2.out _).mono ?_; rintro r w' ⟨rfl, rfl⟩)
          | (with_reducible refine (C4.out _).mono ?_; rintro r w' ⟨rfl, rfl⟩))
      | (go_at_call 45; refine (HO.out _).mono ?_; rintro r w' ⟨⟨r0, rfl, hr0⟩, rfl⟩))
    go_ret
    exact ⟨rfl, HS0.out.2⟩
set_option maxHeartbeats 1000000 in
theorem refsbform_any (a b c d : Int) (w : World) :
    Calls Tryd.prog 24 #[.agg #[.int .i64 a, .int .i64 b, .int .i64 c, .int .i64 d]] w fun r w' => r = .returned (.bool (decide (Sb.form ⟨a, b, c, d⟩))) ∧ Below w.heap.size w w' := by
  have HL := Lib.hid (fun W => sblog_any c W)
  have HQ := Lib.hid (Sb.lg_pw c)
  have HV : Hid (Sb.form ⟨a, b, c, d⟩ ↔ ((1 ≤ a ∧ a ≤ 4294967295) ∧ (1 ≤ b ∧ b ≤ 2) ∧ Sb.pw c ∧ (4 ≤ d ∧ d ≤ 16))) := Iff.rfl
  rw [show decide (Sb.form ⟨a, b, c, d⟩) = decide ((1 ≤ a ∧ a ≤ 4294967295) ∧ (1 ≤ b ∧ b ≤ 2) ∧ Sb.pw c ∧ (4 ≤ d ∧ d ≤ 16)) from decide_eq_decide.2 HV.out]
  clear HV
  generalize Sb.lg c = q at *
  have hpq : Sb.pw c ↔ 1 ≤ q := (decide_eq_decide.1 HQ.out).symm
  rw [show decide ((1 ≤ a ∧ a ≤ 4294967295) ∧ (1 ≤ b ∧ b ≤ 2) ∧ Sb.pw c ∧ (4 ≤ d ∧ d ≤ 16)) = decide ((1 ≤ a ∧ a ≤ 4294967295) ∧ (1 ≤ b ∧ b ≤ 2) ∧ 1 ≤ q ∧ (4 ≤ d ∧ d ≤ 16)) from decide_eq_decide.2 (show ((1 ≤ a ∧ a ≤ 4294967295) ∧ (1 ≤ b ∧ b ≤ 2) ∧ Sb.pw c ∧ (4 ≤ d ∧ d ≤ 16)) ↔ ((1 ≤ a ∧ a ≤ 4294967295) ∧ (1 ≤ b ∧ b ≤ 2) ∧ 1 ≤ q ∧ (4 ≤ d ∧ d ≤ 16)) by rw [hpq])]
  clear HQ hpq
  have HS0 := Lib.hid (sd_new w #[.int .i64 a, .int .i64 b, .int .i64 c, .int .i64 d] 41)
  go_enter Tryd.func24, Tryd.ntmps24
  go_upto_region 1 with fail
  generalize w.alloc (.cells #[.int .i64 a, .int .i64 b, .int .i64 c, .int .i64 d] 41) = w0 at *
  obtain ⟨z0, z1, z2, z3⟩ := sd_cells4 HS0.out
  go_wp2_with (go_at_call 46; refine (HL.out _).mono ?_; rintro r w' ⟨rfl, rfl⟩)
  all_goals
    go_ret
    refine ⟨ret_bool ?_, HS0.out.2⟩
    first
      | exact (decide_eq_false (by omega)).symm
      | exact (decide_eq_true (by omega)).symm
      | exact decide_eq_decide.2 (by omega)
      | (simp only [eq_comm (a := false), Bool.and_eq_false_iff, decide_eq_false_iff_not]; omega)
end Go.Proofs.YtjfgnojmdbfnmaaDoor
