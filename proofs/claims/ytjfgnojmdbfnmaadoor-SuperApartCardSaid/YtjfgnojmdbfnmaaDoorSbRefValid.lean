/-
  The walk of the reference's Valid of superblocks.
-/
import Derived.Test.YtjfgnojmdbfnmaaDoorSbRefTwo
import Derived.Test.YtjfgnojmdbfnmaaDoorSbRefThree
namespace Go.Proofs.YtjfgnojmdbfnmaaDoor
open Go.RowKit
set_option maxHeartbeats 8000000 in
set_option maxRecDepth 100000 in
theorem refsbvalid_other (a0 a1 a2 a3 a4 t0 t1 t2 t3 h0 h1 h2 h3 : Int) (A : Option Addr) (n c : Nat) (l : List Sb.L) (w : World) (hl : Hid (l.length = n)) (hk : Sb.form ⟨t0, t1, t2, t3⟩) (c0 : decide (a0 < 1) = false) (c1 : decide (1099511627775 < a0) = false) (c2 : decide (a2 < 0) = false) (c3 : decide (4294967295 < a2) = false) (c4 : decide (a3 < 0) = false) (c5 : decide (281474976710655 < a3) = false) (c6 : decide (a4 < 0) = false) (c7 : decide (549755813888 < a4) = false) (p2 : a1 ≠ 2) (p3 : a1 ≠ 3) :
    Calls Tryd.prog 26 #[.agg #[.int .i64 a0, .int .i64 a1, .int .i64 a2, .int .i64 a3, .int .i64 a4, .int .i64 t0, .int .i64 t1, .int .i64 t2, .int .i64 t3, .int .i64 h0, .int .i64 h1, .int .i64 h2, .int .i64 h3, .slice A n c]] w
      fun r w' => r = .returned (.bool (decide (Sb.valid ⟨a0, a1, a2, a3, a4, ⟨t0, t1, t2, t3⟩, ⟨h0, h1, h2, h3⟩, l⟩))) ∧ Below w.heap.size w w' := by
  have HV := Lib.hid (valid_bool ⟨a0, a1, a2, a3, a4, ⟨t0, t1, t2, t3⟩, ⟨h0, h1, h2, h3⟩, l⟩)
  simp only [range_bool] at HV
  rw [c0, c1, c2, c3, c4, c5, c6, c7, decide_eq_true hk] at HV
  simp only [Bool.not_false, Bool.true_and] at HV
  rw [HV.out]
  clear HV
  have HV1 := Lib.hid (@suits_one ⟨a0, a1, a2, a3, a4, ⟨t0, t1, t2, t3⟩, ⟨h0, h1, h2, h3⟩, l⟩)
  have HV4 := Lib.hid (@suits_none ⟨a0, a1, a2, a3, a4, ⟨t0, t1, t2, t3⟩, ⟨h0, h1, h2, h3⟩, l⟩)
  simp only [hl.out] at HV1 HV4
  generalize decide (Sb.suits ⟨a0, a1, a2, a3, a4, ⟨t0, t1, t2, t3⟩, ⟨h0, h1, h2, h3⟩, l⟩) = ks at *
  have CT : Hid (∀ W, Calls Tryd.prog 24 #[.agg #[.int .i64 t0, .int .i64 t1, .int .i64 t2, .int .i64 t3]] W fun r w' => r = .returned (.bool true) ∧ Below W.heap.size W w') := fun W => by
    have h := refsbform_any t0 t1 t2 t3 W
    rwa [decide_eq_true hk] at h
  clear hk
  have q1 : ∀ W : World, (Op.equalIn 10000 41 (.agg #[.int .i64 h0, .int .i64 h1, .int .i64 h2, .int .i64 h3]) (.agg #[.int .i64 0, .int .i64 0, .int .i64 0, .int .i64 0])).run Tryd.prog W = .ok (Sb.sameL ⟨h0, h1, h2, h3⟩ Sb.L0) W := fun W : World => lay_eq W h0 h1 h2 h3 0 0 0 0
  generalize Sb.sameL ⟨h0, h1, h2, h3⟩ Sb.L0 = kz at *
  clear hl
  have HS0 := Lib.hid (sd_new w #[.int .i64 a0, .int .i64 a1, .int .i64 a2, .int .i64 a3, .int .i64 a4, .int .i64 t0, .int .i64 t1, .int .i64 t2, .int .i64 t3, .int .i64 h0, .int .i64 h1, .int .i64 h2, .int .i64 h3, .slice A n c] 44)
  by_cases p1 : a1 = 1
  · subst p1
    have HR : Hid (ks = (kz && decide (n = 0))) := HV1.out rfl
    clear HV1 HV4 p2 p3
    have d0 : ((n : Int) == 0) = decide (n = 0) := by by_cases h : n = 0 <;> simp [h]
    rw [HR.out]
    generalize decide (n = 0) = kn at *
    cases kz
    all_goals
      go_enter Tryd.func26, Tryd.ntmps26
      go_upto_region 1 with fail
      generalize w.alloc (.cells _ 44) = w0 at *
      obtain ⟨x0, x1, x2, x3, x4, x5, x6, x7, x8, x9, x10, x11, x12, x13⟩ := cells14 HS0.out.1
      go_upto_region 3 with (go_at_call 24; refine (CT.out _).mono ?_; rintro r w1 ⟨rfl, hb1⟩; have HS1 := Lib.hid (HS0.out.next hb1 (by rfl) (by rfl) (by rfl) (by rfl)); clear x0 x1 x2 x3 x4 x5 x6 x7 x8 x9 x10 x11 x12 x13 hb1; obtain ⟨x0, x1, x2, x3, x4, x5, x6, x7, x8, x9, x10, x11, x12, x13⟩ := cells14 HS1.out.1)
      clear c0 c1 c3 c4 c5 c6 c7
      go_wp2
      go_ret
      exact ⟨ret_bool (by simp), HS1.out.2⟩
  · have HR : Hid (ks = false) := HV4.out p1 p2 p3
    clear HV1 HV4
    rw [HR.out]
    have d1 := beq_no p1
    have d2 := beq_no p2
    have d3 := beq_no p3
    go_enter Tryd.func26, Tryd.ntmps26
    go_upto_region 1 with fail
    generalize w.alloc (.cells _ 44) = w0 at *
    obtain ⟨x0, x1, x2, x3, x4, x5, x6, x7, x8, x9, x10, x11, x12, x13⟩ := cells14 HS0.out.1
    go_upto_region 3 with (go_at_call 24; refine (CT.out _).mono ?_; rintro r w1 ⟨rfl, hb1⟩; have HS1 := Lib.hid (HS0.out.next hb1 (by rfl) (by rfl) (by rfl) (by rfl)); clear x0 x1 x2 x3 x4 x5 x6 x7 x8 x9 x10 x11 x12 x13 hb1; obtain ⟨x0, x1, x2, x3, x4, x5, x6, x7, x8, x9, x10, x11, x12, x13⟩ := cells14 HS1.out.1)
    clear c0 c1 c3 c4 c5 c6 c7
    go_wp2
    go_ret
    exact ⟨rfl, HS1.out.2⟩
set_option maxHeartbeats 8000000 in
set_option maxRecDepth 100000 in
theorem refsbvalid_bad (a0 a1 a2 a3 a4 t0 t1 t2 t3 h0 h1 h2 h3 : Int) (A : Option Addr) (n c : Nat) (l : List Sb.L) (w : World) (hk : Sb.form ⟨t0, t1, t2, t3⟩ → decide (a0 < 1) = true ∨ decide (1099511627775 < a0) = true ∨ decide (a2 < 0) = true ∨ decide (4294967295 < a2) = true ∨ decide (a3 < 0) = true ∨ decide (281474976710655 < a3) = true ∨ decide (a4 < 0) = true ∨ decide (549755813888 < a4) = true) :
    Calls Tryd.prog 26 #[.agg #[.int .i64 a0, .int .i64 a1, .int .i64 a2, .int .i64 a3, .int .i64 a4, .int .i64 t0, .int .i64 t1, .int .i64 t2, .int .i64 t3, .int .i64 h0, .int .i64 h1, .int .i64 h2, .int .i64 h3, .slice A n c]] w
      fun r w' => r = .returned (.bool (decide (Sb.valid ⟨a0, a1, a2, a3, a4, ⟨t0, t1, t2, t3⟩, ⟨h0, h1, h2, h3⟩, l⟩))) ∧ Below w.heap.size w w' := by
  have HV := Lib.hid (valid_bool ⟨a0, a1, a2, a3, a4, ⟨t0, t1, t2, t3⟩, ⟨h0, h1, h2, h3⟩, l⟩)
  simp only [range_bool] at HV
  generalize decide (Sb.valid ⟨a0, a1, a2, a3, a4, ⟨t0, t1, t2, t3⟩, ⟨h0, h1, h2, h3⟩, l⟩) = res at *
  have HS0 := Lib.hid (sd_new w #[.int .i64 a0, .int .i64 a1, .int .i64 a2, .int .i64 a3, .int .i64 a4, .int .i64 t0, .int .i64 t1, .int .i64 t2, .int .i64 t3, .int .i64 h0, .int .i64 h1, .int .i64 h2, .int .i64 h3, .slice A n c] 44)
  have CT := Lib.hid (fun W => refsbform_any t0 t1 t2 t3 W)
  have HK := Lib.hid hk
  clear hk
  rcases yes8 (decide (a0 < 1)) (decide (1099511627775 < a0)) (decide (a2 < 0)) (decide (4294967295 < a2)) (decide (a3 < 0)) (decide (281474976710655 < a3)) (decide (a4 < 0)) (decide (549755813888 < a4)) with c0 | ⟨c0, c1⟩ | ⟨c0, c1, c2⟩ | ⟨c0, c1, c2, c3⟩ | ⟨c0, c1, c2, c3, c4⟩ | ⟨c0, c1, c2, c3, c4, c5⟩ | ⟨c0, c1, c2, c3, c4, c5, c6⟩ | ⟨c0, c1, c2, c3, c4, c5, c6, c7⟩ | ⟨c0, c1, c2, c3, c4, c5, c6, c7⟩
  case inr.inr.inr.inr.inr.inr.inr.inr =>
    have hf : ¬ Sb.form ⟨t0, t1, t2, t3⟩ := fun h => by
      have := HK.out h
      simp only [c0, c1, c2, c3, c4, c5, c6, c7] at this
      simp at this
    rw [decide_eq_false hf] at CT HV
    have HR : Hid (res = false) := by (show _ = _; rw [HV.out]; simp only [Bool.false_and, Bool.and_false])
    rw [HR.out]
    clear HV HK hf
    go_enter Tryd.func26, Tryd.ntmps26
    go_upto_region 1 with fail
    generalize w.alloc (.cells _ 44) = w0 at *
    obtain ⟨x0, x1, x2, x3, x4, x5, x6, x7, x8, x9, x10, x11, x12, x13⟩ := cells14 HS0.out.1
    go_wp2_with (go_at_call 24; refine (CT.out _).mono ?_; rintro r w1 ⟨rfl, hb1⟩; have HS1 := Lib.hid (HS0.out.next hb1 (by rfl) (by rfl) (by rfl) (by rfl)); clear hb1)
    go_ret
    exact ⟨rfl, HS1.out.2⟩
  all_goals
    have HR : Hid (res = false) := by (show _ = _; rw [HV.out]; simp only [*, Bool.not_true, Bool.false_and, Bool.and_false, Bool.not_false, Bool.true_and])
    rw [HR.out]
    clear HV HK
    go_enter Tryd.func26, Tryd.ntmps26
    go_upto_region 1 with fail
    generalize w.alloc (.cells _ 44) = w0 at *
    obtain ⟨x0, x1, x2, x3, x4, x5, x6, x7, x8, x9, x10, x11, x12, x13⟩ := cells14 HS0.out.1
    go_wp2
    go_ret
    exact ⟨rfl, HS0.out.2⟩
theorem refsbvalid_any (a0 a1 a2 a3 a4 t0 t1 t2 t3 h0 h1 h2 h3 : Int) (A : Option Addr) (B n c : Nat) (l : List Sb.L) (w : World) (hB : B ≤ w.heap.size) (hl : Hid (l.length = n)) (hb : Hid (Ls w B A l)) :
    Calls Tryd.prog 26 #[.agg #[.int .i64 a0, .int .i64 a1, .int .i64 a2, .int .i64 a3, .int .i64 a4, .int .i64 t0, .int .i64 t1, .int .i64 t2, .int .i64 t3, .int .i64 h0, .int .i64 h1, .int .i64 h2, .int .i64 h3, .slice A n c]] w
      fun r w' => r = .returned (.bool (decide (Sb.valid ⟨a0, a1, a2, a3, a4, ⟨t0, t1, t2, t3⟩, ⟨h0, h1, h2, h3⟩, l⟩))) ∧ Below w.heap.size w w' := by
  by_cases hk : Sb.form ⟨t0, t1, t2, t3⟩
  · rcases yes8 (decide (a0 < 1)) (decide (1099511627775 < a0)) (decide (a2 < 0)) (decide (4294967295 < a2)) (decide (a3 < 0)) (decide (281474976710655 < a3)) (decide (a4 < 0)) (decide (549755813888 < a4)) with c0 | ⟨c0, c1⟩ | ⟨c0, c1, c2⟩ | ⟨c0, c1, c2, c3⟩ | ⟨c0, c1, c2, c3, c4⟩ | ⟨c0, c1, c2, c3, c4, c5⟩ | ⟨c0, c1, c2, c3, c4, c5, c6⟩ | ⟨c0, c1, c2, c3, c4, c5, c6, c7⟩ | ⟨c0, c1, c2, c3, c4, c5, c6, c7⟩
    case inr.inr.inr.inr.inr.inr.inr.inr =>
      by_cases p2 : a1 = 2
      · subst p2
        exact refsbvalid_two a0 a2 a3 a4 t0 t1 t2 t3 h0 h1 h2 h3 A B n c l w hB hl hb hk c0 c1 c2 c3 c4 c5 c6 c7
      by_cases p3 : a1 = 3
      · subst p3
        exact refsbvalid_three a0 a2 a3 a4 t0 t1 t2 t3 h0 h1 h2 h3 A B n c l w hB hl hb hk c0 c1 c2 c3 c4 c5 c6 c7
      exact refsbvalid_other a0 a1 a2 a3 a4 t0 t1 t2 t3 h0 h1 h2 h3 A n c l w hl hk c0 c1 c2 c3 c4 c5 c6 c7 p2 p3
    all_goals
      refine refsbvalid_bad a0 a1 a2 a3 a4 t0 t1 t2 t3 h0 h1 h2 h3 A n c l w fun _ => ?_
      simp only [*, true_or, or_true]
  · exact refsbvalid_bad a0 a1 a2 a3 a4 t0 t1 t2 t3 h0 h1 h2 h3 A n c l w fun h => absurd h hk
end Go.Proofs.YtjfgnojmdbfnmaaDoor
