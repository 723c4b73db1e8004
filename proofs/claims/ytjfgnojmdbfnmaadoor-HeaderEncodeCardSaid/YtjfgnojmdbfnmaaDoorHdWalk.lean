/-
  The walks of header.isWithin, header.Valid and the reference's Valid.
-/
import Derived.Test.YtjfgnojmdbfnmaaDoorHdWords
import Derived.Deep.DeepCutAuto
import Derived.Deep.CutBlock
namespace Go.Proofs.YtjfgnojmdbfnmaaDoor
open Go.RowKit
theorem hdwithin_any (n a b : Int) (w : World) : Calls Tryd.prog 34 #[.int .i64 n, .int .i64 a, .int .i64 b] w fun e w' => e = .returned (.bool (decide (a ≤ n ∧ n ≤ b))) ∧ w = w' := by
  rw [Bool.decide_and]
  cases ha : decide (a ≤ n)
  all_goals
    go_enter Tryd.func34, Tryd.ntmps34
    go_wp2
    go_ret
    exact ⟨ret_bool (by simp), rfl⟩
/-- The first of six that is false. -/
theorem six_ways (t0 t1 t2 t3 t4 t5 : Bool) : t0 = false ∨ (t0 = true ∧ t1 = false) ∨ (t0 = true ∧ t1 = true ∧ t2 = false) ∨ (t0 = true ∧ t1 = true ∧ t2 = true ∧ t3 = false) ∨ (t0 = true ∧ t1 = true ∧ t2 = true ∧ t3 = true ∧ t4 = false) ∨ (t0 = true ∧ t1 = true ∧ t2 = true ∧ t3 = true ∧ t4 = true) := by
  cases t0 <;> cases t1 <;> cases t2 <;> cases t3 <;> cases t4 <;> cases t5 <;> simp
set_option maxHeartbeats 1000000 in
theorem hdvalid_any (a b c d e f : Int) (w : World) :
    Calls Tryd.prog 13 #[.agg #[.int .i64 a, .int .i64 b, .int .i64 c, .int .i64 d, .int .i64 e, .int .i64 f]] w fun r w' => r = .returned (.bool (decide (Hd.valid ⟨a, b, c, d, e, f⟩))) ∧ Below w.heap.size w w' := by
  have HV : Hid (decide (Hd.valid ⟨a, b, c, d, e, f⟩) = (decide (1 ≤ a ∧ a ≤ 2) && (decide (0 ≤ b ∧ b ≤ 15) && (decide (1 ≤ c ∧ c ≤ 4294967295) && (decide (1 ≤ d ∧ d ≤ 281474976710655) && (decide (0 ≤ e ∧ e ≤ d) && decide (0 ≤ f ∧ f ≤ 549755813888))))))) := by
    show _ = _
    simp only [← Bool.decide_and]
    exact decide_eq_decide.2 (by unfold Hd.valid; simp only; omega)
  rw [HV.out]
  clear HV
  have C0 := Lib.hid (fun W => hdwithin_any a 1 2 W)
  have C1 := Lib.hid (fun W => hdwithin_any b 0 15 W)
  have C2 := Lib.hid (fun W => hdwithin_any c 1 4294967295 W)
  have C3 := Lib.hid (fun W => hdwithin_any d 1 281474976710655 W)
  have C4 := Lib.hid (fun W => hdwithin_any e 0 d W)
  have C5 := Lib.hid (fun W => hdwithin_any f 0 549755813888 W)
  generalize decide (1 ≤ a ∧ a ≤ 2) = t0 at *
  generalize decide (0 ≤ b ∧ b ≤ 15) = t1 at *
  generalize decide (1 ≤ c ∧ c ≤ 4294967295) = t2 at *
  generalize decide (1 ≤ d ∧ d ≤ 281474976710655) = t3 at *
  generalize decide (0 ≤ e ∧ e ≤ d) = t4 at *
  generalize decide (0 ≤ f ∧ f ≤ 549755813888) = t5 at *
  have HS0 := Lib.hid (sd_new w #[.int .i64 a, .int .i64 b, .int .i64 c, .int .i64 d, .int .i64 e, .int .i64 f] 23)
  rcases six_ways t0 t1 t2 t3 t4 t5 with rfl | ⟨rfl, rfl⟩ | ⟨rfl, rfl, rfl⟩ | ⟨rfl, rfl, rfl, rfl⟩ | ⟨rfl, rfl, rfl, rfl, rfl⟩ | ⟨rfl, rfl, rfl, rfl, rfl⟩
  · go_enter Tryd.func13, Tryd.ntmps13
    go_upto_region 1 with fail
    generalize w.alloc (.cells #[.int .i64 a, .int .i64 b, .int .i64 c, .int .i64 d, .int .i64 e, .int .i64 f] 23) = w0 at *
    obtain ⟨z0, z1, z2, z3, z4, z5⟩ := six_cells HS0.out.1
    go_wp2_with fail
    refine (C0.out _).mono ?_
    rintro r w' ⟨rfl, rfl⟩
    go_wp2_with fail
    go_ret
    exact ⟨rfl, HS0.out.2⟩
  · go_enter Tryd.func13, Tryd.ntmps13
    go_upto_region 1 with fail
    generalize w.alloc (.cells #[.int .i64 a, .int .i64 b, .int .i64 c, .int .i64 d, .int .i64 e, .int .i64 f] 23) = w0 at *
    obtain ⟨z0, z1, z2, z3, z4, z5⟩ := six_cells HS0.out.1
    go_wp2_with fail
    refine (C0.out _).mono ?_
    rintro r w' ⟨rfl, rfl⟩
    go_wp2_with fail
    refine (C1.out _).mono ?_
    rintro r w' ⟨rfl, rfl⟩
    go_wp2_with fail
    go_ret
    exact ⟨rfl, HS0.out.2⟩
  · go_enter Tryd.func13, Tryd.ntmps13
    go_upto_region 1 with fail
    generalize w.alloc (.cells #[.int .i64 a, .int .i64 b, .int .i64 c, .int .i64 d, .int .i64 e, .int .i64 f] 23) = w0 at *
    obtain ⟨z0, z1, z2, z3, z4, z5⟩ := six_cells HS0.out.1
    go_wp2_with fail
    refine (C0.out _).mono ?_
    rintro r w' ⟨rfl, rfl⟩
    go_wp2_with fail
    refine (C1.out _).mono ?_
    rintro r w' ⟨rfl, rfl⟩
    go_wp2_with fail
    refine (C2.out _).mono ?_
    rintro r w' ⟨rfl, rfl⟩
    go_wp2_with fail
    go_ret
    exact ⟨rfl, HS0.out.2⟩
  · go_enter Tryd.func13, Tryd.ntmps13
    go_upto_region 1 with fail
    generalize w.alloc (.cells #[.int .i64 a, .int .i64 b, .int .i64 c, .int .i64 d, .int .i64 e, .int .i64 f] 23) = w0 at *
    obtain ⟨z0, z1, z2, z3, z4, z5⟩ := six_cells HS0.out.1
    go_wp2_with fail
    refine (C0.out _).mono ?_
    rintro r w' ⟨rfl, rfl⟩
    go_wp2_with fail
    refine (C1.out _).mono ?_
    rintro r w' ⟨rfl, rfl⟩
    go_wp2_with fail
    refine (C2.out _).mono ?_
    rintro r w' ⟨rfl, rfl⟩
    go_wp2_with fail
    refine (C3.out _).mono ?_
    rintro r w' ⟨rfl, rfl⟩
    go_wp2_with fail
    go_ret
    exact ⟨rfl, HS0.out.2⟩
  · go_enter Tryd.func13, Tryd.ntmps13
    go_upto_region 1 with fail
    generalize w.alloc (.cells #[.int .i64 a, .int .i64 b, .int .i64 c, .int .i64 d, .int .i64 e, .int .i64 f] 23) = w0 at *
    obtain ⟨z0, z1, z2, z3, z4, z5⟩ := six_cells HS0.out.1
    go_wp2_with fail
    refine (C0.out _).mono ?_
    rintro r w' ⟨rfl, rfl⟩
    go_wp2_with fail
    refine (C1.out _).mono ?_
    rintro r w' ⟨rfl, rfl⟩
    go_wp2_with fail
    refine (C2.out _).mono ?_
    rintro r w' ⟨rfl, rfl⟩
    go_wp2_with fail
    refine (C3.out _).mono ?_
    rintro r w' ⟨rfl, rfl⟩
    go_wp2_with fail
    refine (C4.out _).mono ?_
    rintro r w' ⟨rfl, rfl⟩
    go_wp2_with fail
    go_ret
    exact ⟨rfl, HS0.out.2⟩
  · go_enter Tryd.func13, Tryd.ntmps13
    go_upto_region 1 with fail
    generalize w.alloc (.cells #[.int .i64 a, .int .i64 b, .int .i64 c, .int .i64 d, .int .i64 e, .int .i64 f] 23) = w0 at *
    obtain ⟨z0, z1, z2, z3, z4, z5⟩ := six_cells HS0.out.1
    go_wp2_with fail
    refine (C0.out _).mono ?_
    rintro r w' ⟨rfl, rfl⟩
    go_wp2_with fail
    refine (C1.out _).mono ?_
    rintro r w' ⟨rfl, rfl⟩
    go_wp2_with fail
    refine (C2.out _).mono ?_
    rintro r w' ⟨rfl, rfl⟩
    go_wp2_with fail
    refine (C3.out _).mono ?_
    rintro r w' ⟨rfl, rfl⟩
    go_wp2_with fail
    refine (C4.out _).mono ?_
    rintro r w' ⟨rfl, rfl⟩
    go_wp2_with fail
    refine (C5.out _).mono ?_
    rintro r w' ⟨rfl, rfl⟩
    go_wp2_with fail
    go_ret
    exact ⟨rfl, HS0.out.2⟩
set_option maxHeartbeats 1000000 in
theorem refhdvalid_any (a b c d e f : Int) (w : World) :
    Calls Tryd.prog 14 #[.agg #[.int .i64 a, .int .i64 b, .int .i64 c, .int .i64 d, .int .i64 e, .int .i64 f]] w fun r w' => r = .returned (.bool (decide (Hd.valid ⟨a, b, c, d, e, f⟩))) ∧ Below w.heap.size w w' := by
  have HS0 := Lib.hid (sd_new w #[.int .i64 a, .int .i64 b, .int .i64 c, .int .i64 d, .int .i64 e, .int .i64 f] 23)
  go_enter Tryd.func14, Tryd.ntmps14
  go_upto_region 1 with fail
  generalize w.alloc (.cells #[.int .i64 a, .int .i64 b, .int .i64 c, .int .i64 d, .int .i64 e, .int .i64 f] 23) = w0 at *
  obtain ⟨z0, z1, z2, z3, z4, z5⟩ := six_cells HS0.out.1
  go_wp2
  all_goals
    go_ret
    refine ⟨ret_bool ?_, HS0.out.2⟩
    first
      | exact (decide_eq_false (by unfold Hd.valid; simp only; omega)).symm
      | exact (decide_eq_true (by unfold Hd.valid; simp only; omega)).symm
      | exact decide_eq_decide.2 (by unfold Hd.valid; simp only; omega)
end Go.Proofs.YtjfgnojmdbfnmaaDoor
