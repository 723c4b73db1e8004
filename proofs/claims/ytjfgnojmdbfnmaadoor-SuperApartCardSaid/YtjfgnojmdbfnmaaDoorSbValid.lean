/-
  The walk of superblock.Valid.
-/
import Derived.Test.YtjfgnojmdbfnmaaDoorSbSuits
namespace Go.Proofs.YtjfgnojmdbfnmaaDoor
open Go.RowKit
theorem ways5 (t0 t1 t2 t3 t4 : Bool) : t0 = false ∨ (t0 = true ∧ t1 = false) ∨ (t0 = true ∧ t1 = true ∧ t2 = false) ∨ (t0 = true ∧ t1 = true ∧ t2 = true ∧ t3 = false) ∨ (t0 = true ∧ t1 = true ∧ t2 = true ∧ t3 = true ∧ t4 = false) ∨ (t0 = true ∧ t1 = true ∧ t2 = true ∧ t3 = true ∧ t4 = true) := by
  cases t0 <;> cases t1 <;> cases t2 <;> cases t3 <;> cases t4 <;> simp
theorem valid_bool (s : Sb.S) : decide (Sb.valid s) = (decide (1 ≤ s.gen ∧ s.gen ≤ 1099511627775) && (decide (0 ≤ s.mig ∧ s.mig ≤ 4294967295) && (decide (0 ≤ s.tail ∧ s.tail ≤ 281474976710655) && (decide (0 ≤ s.now ∧ s.now ≤ 549755813888) && (decide (Sb.form s.t) && decide (Sb.suits s)))))) := by
  simp only [← Bool.decide_and]
  exact decide_eq_decide.2 ⟨fun ⟨⟨h1, h2, h3, h4, h5⟩, h6⟩ => ⟨h1, h2, h3, h4, h5, h6⟩, fun ⟨h1, h2, h3, h4, h5, h6⟩ => ⟨⟨h1, h2, h3, h4, h5⟩, h6⟩⟩
set_option maxHeartbeats 4000000 in
theorem sbvalid_any (a0 a1 a2 a3 a4 t0 t1 t2 t3 h0 h1 h2 h3 : Int) (A : Option Addr) (B n c : Nat) (l : List Sb.L) (w : World) (hB : B ≤ w.heap.size) (hs : SlIs A n c) (hl : Hid (l.length = n)) (hb : Hid (Ls w B A l)) :
    Calls Tryd.prog 25 #[.agg #[.int .i64 a0, .int .i64 a1, .int .i64 a2, .int .i64 a3, .int .i64 a4, .int .i64 t0, .int .i64 t1, .int .i64 t2, .int .i64 t3, .int .i64 h0, .int .i64 h1, .int .i64 h2, .int .i64 h3, .slice A n c]] w
      fun r w' => r = .returned (.bool (decide (Sb.valid ⟨a0, a1, a2, a3, a4, ⟨t0, t1, t2, t3⟩, ⟨h0, h1, h2, h3⟩, l⟩))) ∧ Below w.heap.size w w' := by
  have HV := Lib.hid (valid_bool ⟨a0, a1, a2, a3, a4, ⟨t0, t1, t2, t3⟩, ⟨h0, h1, h2, h3⟩, l⟩)
  simp only at HV
  generalize decide (Sb.valid ⟨a0, a1, a2, a3, a4, ⟨t0, t1, t2, t3⟩, ⟨h0, h1, h2, h3⟩, l⟩) = res at *
  have CS : Hid (∀ W, Below w.heap.size w W → Calls Tryd.prog 47 #[.agg #[.int .i64 a0, .int .i64 a1, .int .i64 a2, .int .i64 a3, .int .i64 a4, .int .i64 t0, .int .i64 t1, .int .i64 t2, .int .i64 t3, .int .i64 h0, .int .i64 h1, .int .i64 h2, .int .i64 h3, .slice A n c]] W fun r w' => r = .returned (.bool (decide (Sb.suits ⟨a0, a1, a2, a3, a4, ⟨t0, t1, t2, t3⟩, ⟨h0, h1, h2, h3⟩, l⟩))) ∧ Below W.heap.size W w') := fun W hW =>
    sbsuits_any a0 a1 a2 a3 a4 t0 t1 t2 t3 h0 h1 h2 h3 A B n c l W (Nat.le_trans hB hW.size) hs hl (hb.out.below hW hB)
  generalize decide (Sb.suits ⟨a0, a1, a2, a3, a4, ⟨t0, t1, t2, t3⟩, ⟨h0, h1, h2, h3⟩, l⟩) = k5 at *
  have C0 := Lib.hid (fun W => sbwithin_any a0 1 1099511627775 W)
  have C1 := Lib.hid (fun W => sbwithin_any a2 0 4294967295 W)
  have C2 := Lib.hid (fun W => sbwithin_any a3 0 281474976710655 W)
  have C3 := Lib.hid (fun W => sbwithin_any a4 0 549755813888 W)
  have C4 := Lib.hid (fun W => sbform_any t0 t1 t2 t3 W)
  generalize decide (1 ≤ a0 ∧ a0 ≤ 1099511627775) = k0 at *
  generalize decide (0 ≤ a2 ∧ a2 ≤ 4294967295) = k1 at *
  generalize decide (0 ≤ a3 ∧ a3 ≤ 281474976710655) = k2 at *
  generalize decide (0 ≤ a4 ∧ a4 ≤ 549755813888) = k3 at *
  generalize decide (Sb.form ⟨t0, t1, t2, t3⟩) = k4 at *
  clear hl hb hB hs
  have HS0 := Lib.hid (sd_new w #[.int .i64 a0, .int .i64 a1, .int .i64 a2, .int .i64 a3, .int .i64 a4, .int .i64 t0, .int .i64 t1, .int .i64 t2, .int .i64 t3, .int .i64 h0, .int .i64 h1, .int .i64 h2, .int .i64 h3, .slice A n c] 44)
  rcases ways5 k0 k1 k2 k3 k4 with rfl | ⟨rfl, rfl⟩ | ⟨rfl, rfl, rfl⟩ | ⟨rfl, rfl, rfl, rfl⟩ | ⟨rfl, rfl, rfl, rfl, rfl⟩ | ⟨rfl, rfl, rfl, rfl, rfl⟩
  all_goals
    rw [HV.out]
    simp only [Bool.true_and, Bool.false_and]
    clear HV
    go_enter Tryd.func25, Tryd.ntmps25
    go_upto_region 1 with fail
    generalize w.alloc (.cells _ 44) = w0 at *
    obtain ⟨x0, x1, x2, x3, x4, x5, x6, x7, x8, x9, x10, x11, x12, x13⟩ := cells14 HS0.out.1
    go_wp2_with (first
      | (go_at_call 44; first
          | (with_reducible refine (C0.out _).mono ?_; rintro r w' ⟨rfl, rfl⟩)
          | (with_reducible refine (C1.out _).mono ?_; rintro r w' ⟨rfl, rfl⟩)
          | (with_reducible refine (C2.out _).mono ?_; rintro r w' ⟨rfl, rfl⟩)
          | (with_reducible refine (C3.out _).mono ?_; rintro r w' ⟨rfl, rfl⟩))
      | (go_at_call 23; refine (C4.out _).mono ?_; rintro r w1 ⟨rfl, hb1⟩; have HS1 := Lib.hid (HS0.out.next hb1 (by rfl) (by rfl) (by rfl) (by rfl)); clear x0 x1 x2 x3 x4 x5 x6 x7 x8 x9 x10 x11 x12 x13 hb1; obtain ⟨x0, x1, x2, x3, x4, x5, x6, x7, x8, x9, x10, x11, x12, x13⟩ := cells14 HS1.out.1)
      | (go_at_call 47; refine (CS.out _ HS1.out.2).mono ?_; rintro r w2 ⟨rfl, hb2⟩; have HS2 := Lib.hid (HS1.out.next hb2 (by rfl) (by rfl) (by rfl) (by rfl)); clear hb2))
    go_ret
    first
      | exact ⟨rfl, HS2.out.2⟩
      | exact ⟨rfl, HS1.out.2⟩
      | exact ⟨rfl, HS0.out.2⟩
end Go.Proofs.YtjfgnojmdbfnmaaDoor
