/-
  The walk of superblock.returnsFrom.
-/
import Derived.Test.YtjfgnojmdbfnmaaDoorSbEqual
namespace Go.Proofs.YtjfgnojmdbfnmaaDoor
open Go.RowKit
theorem decide_ne (a b : Int) : decide (a ≠ b) = (a != b) := by
  by_cases h : a = b
  · subst h; simp
  · simp [h]
set_option maxHeartbeats 2000000 in
theorem sbback_any (a0 a1 a2 a3 a4 t0 t1 t2 t3 h0 h1 h2 h3 m0 m1 m2 m3 : Int) (A : Option Addr) (n c : Nat) (l : List Sb.L) (w : World) :
    Calls Tryd.prog 69 #[.agg #[.int .i64 a0, .int .i64 a1, .int .i64 a2, .int .i64 a3, .int .i64 a4, .int .i64 t0, .int .i64 t1, .int .i64 t2, .int .i64 t3, .int .i64 h0, .int .i64 h1, .int .i64 h2, .int .i64 h3, .slice A n c], .agg #[.int .i64 m0, .int .i64 m1, .int .i64 m2, .int .i64 m3]] w
      fun r w' => r = .returned (.bool (decide (Sb.back ⟨a0, a1, a2, a3, a4, ⟨t0, t1, t2, t3⟩, ⟨h0, h1, h2, h3⟩, l⟩ ⟨m0, m1, m2, m3⟩))) ∧ Below w.heap.size w w' := by
  have HV : Hid (decide (Sb.back ⟨a0, a1, a2, a3, a4, ⟨t0, t1, t2, t3⟩, ⟨h0, h1, h2, h3⟩, l⟩ ⟨m0, m1, m2, m3⟩) = (Sb.sameL ⟨t0, t1, t2, t3⟩ ⟨t0, h1, h2, h3⟩ && (decide (Sb.form ⟨m0, m1, m2, m3⟩) && ((m0 != h0) && (m0 != t0))))) := by
    show _ = _
    rw [Sb.sameL_decide, ← decide_ne, ← decide_ne]
    simp only [← Bool.decide_and]
    rfl
  generalize decide (Sb.back ⟨a0, a1, a2, a3, a4, ⟨t0, t1, t2, t3⟩, ⟨h0, h1, h2, h3⟩, l⟩ ⟨m0, m1, m2, m3⟩) = res at *
  have CF := Lib.hid (fun W => sbform_any m0 m1 m2 m3 W)
  generalize decide (Sb.form ⟨m0, m1, m2, m3⟩) = k1 at *
  have q1 := fun W : World => lay_eq W t0 t1 t2 t3 t0 h1 h2 h3
  generalize Sb.sameL ⟨t0, t1, t2, t3⟩ ⟨t0, h1, h2, h3⟩ = k0 at *
  have HD0 := Lib.hid (sd2_new w #[.int .i64 a0, .int .i64 a1, .int .i64 a2, .int .i64 a3, .int .i64 a4, .int .i64 t0, .int .i64 t1, .int .i64 t2, .int .i64 t3, .int .i64 h0, .int .i64 h1, .int .i64 h2, .int .i64 h3, .slice A n c] #[.int .i64 m0, .int .i64 m1, .int .i64 m2, .int .i64 m3] 44 41)
  have ways := five_ways k0 k1 (m0 != h0) true
  rcases ways with rfl | ⟨rfl, rfl⟩ | ⟨rfl, rfl, k2⟩ | ⟨-, -, -, k2⟩ | ⟨rfl, rfl, k2, -⟩
  case inr.inr.inr.inl => cases k2
  all_goals
    first
      | have HR : Hid (res = (m0 != t0)) := by (show _ = _; rw [HV.out, k2]; rfl)
      | have HR : Hid (res = false) := by (show _ = _; rw [HV.out, k2]; rfl)
      | have HR : Hid (res = false) := by (show _ = _; rw [HV.out]; rfl)
    clear HV
    go_enter Tryd.func69, Tryd.ntmps69
    go_upto_region 1 with fail
    generalize (w.alloc (.cells #[.int .i64 a0, .int .i64 a1, .int .i64 a2, .int .i64 a3, .int .i64 a4, .int .i64 t0, .int .i64 t1, .int .i64 t2, .int .i64 t3, .int .i64 h0, .int .i64 h1, .int .i64 h2, .int .i64 h3, .slice A n c] 44)).alloc (.cells #[.int .i64 m0, .int .i64 m1, .int .i64 m2, .int .i64 m3] 41) = w0 at *
    obtain ⟨x0, x1, x2, x3, x4, x5, x6, x7, x8, x9, x10, x11, x12, x13⟩ := cells14 HD0.out.1
    obtain ⟨y0, y1, y2, y3⟩ := four_cells HD0.out.2.1
    have HX0 : Hid (Sd2 w _ _ (w0.alloc (.cells #[.int .i64 h0, .int .i64 h1, .int .i64 h2, .int .i64 h3] 41))) := HD0.out.next ((Below.refl _ w0).alloc (Nat.le_refl _) _) rfl rfl rfl rfl
    have HX : Hid (Sd2 w _ _ (w0.alloc (.cells #[.int .i64 t0, .int .i64 h1, .int .i64 h2, .int .i64 h3] 41))) := HD0.out.next ((Below.refl _ w0).alloc (Nat.le_refl _) _) rfl rfl rfl rfl
    obtain ⟨u0, u1, u2, u3, u4, u5, u6, u7, u8, u9, u10, u11, u12, u13⟩ := cells14 HX0.out.1
    obtain ⟨v0, v1, v2, v3, v4, v5, v6, v7, v8, v9, v10, v11, v12, v13⟩ := cells14 HX.out.1
    obtain ⟨z0, z1, z2, z3⟩ := four_cells HX.out.2.1
    go_wp2_with (go_at_call 23; refine (CF.out _).mono ?_; rintro r w1 ⟨rfl, hb1⟩; have HD1 := Lib.hid (HX.out.next hb1 (by rfl) (by rfl) (by rfl) (by rfl)); clear x0 x1 x2 x3 x4 x5 x6 x7 x8 x9 x10 x11 x12 x13 y0 y1 y2 y3 hb1; obtain ⟨x0, x1, x2, x3, x4, x5, x6, x7, x8, x9, x10, x11, x12, x13⟩ := cells14 HD1.out.1; obtain ⟨y0, y1, y2, y3⟩ := four_cells HD1.out.2.1)
    go_ret
    first
      | exact ⟨ret_bool HR.out.symm, HD1.out.2.2⟩
      | exact ⟨ret_bool HR.out.symm, HX.out.2.2⟩
end Go.Proofs.YtjfgnojmdbfnmaaDoor
