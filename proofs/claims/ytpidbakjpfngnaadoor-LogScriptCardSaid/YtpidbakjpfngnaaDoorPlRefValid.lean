/-
  The walk of the reference's Valid.
-/
import Derived.Test.YtpidbakjpfngnaaDoorPlValid
set_option maxRecDepth 100000
namespace Go.Proofs.YtpidbakjpfngnaaDoor
open Go.RowKit
theorem refvalid_ways (k m i t a b c d : Int) : (decide (m < 1) = true ∧ decide (Pl.valid ⟨k, m, i, t, ⟨a, b, c, d⟩⟩) = false) ∨
    (decide (m < 1) = false ∧ decide (4294967295 < m) = true ∧ decide (Pl.valid ⟨k, m, i, t, ⟨a, b, c, d⟩⟩) = false) ∨
    (decide (m < 1) = false ∧ decide (4294967295 < m) = false ∧ decide (t < 0) = true ∧ decide (Pl.valid ⟨k, m, i, t, ⟨a, b, c, d⟩⟩) = false) ∨
    (decide (m < 1) = false ∧ decide (4294967295 < m) = false ∧ decide (t < 0) = false ∧ decide (281474976710655 < t) = true ∧ decide (Pl.valid ⟨k, m, i, t, ⟨a, b, c, d⟩⟩) = false) ∨
    (decide (m < 1) = false ∧ decide (4294967295 < m) = false ∧ decide (t < 0) = false ∧ decide (281474976710655 < t) = false ∧ decide (Sb.form ⟨a, b, c, d⟩) = false ∧ decide (Pl.valid ⟨k, m, i, t, ⟨a, b, c, d⟩⟩) = false) ∨
    (decide (m < 1) = false ∧ decide (4294967295 < m) = false ∧ decide (t < 0) = false ∧ decide (281474976710655 < t) = false ∧ decide (Sb.form ⟨a, b, c, d⟩) = true ∧ (k == 1) = true ∧ (i == 0) = true ∧ decide (Pl.valid ⟨k, m, i, t, ⟨a, b, c, d⟩⟩) = true) ∨
    (decide (m < 1) = false ∧ decide (4294967295 < m) = false ∧ decide (t < 0) = false ∧ decide (281474976710655 < t) = false ∧ decide (Sb.form ⟨a, b, c, d⟩) = true ∧ (k == 1) = true ∧ (i == 0) = false ∧ (k == 2) = false ∧ decide (Pl.valid ⟨k, m, i, t, ⟨a, b, c, d⟩⟩) = false) ∨
    (decide (m < 1) = false ∧ decide (4294967295 < m) = false ∧ decide (t < 0) = false ∧ decide (281474976710655 < t) = false ∧ decide (Sb.form ⟨a, b, c, d⟩) = true ∧ (k == 1) = false ∧ (k == 2) = false ∧ decide (Pl.valid ⟨k, m, i, t, ⟨a, b, c, d⟩⟩) = false) ∨
    (decide (m < 1) = false ∧ decide (4294967295 < m) = false ∧ decide (t < 0) = false ∧ decide (281474976710655 < t) = false ∧ decide (Sb.form ⟨a, b, c, d⟩) = true ∧ (k == 1) = false ∧ (k == 2) = true ∧ decide (1 ≤ i) = false ∧ decide (Pl.valid ⟨k, m, i, t, ⟨a, b, c, d⟩⟩) = false) ∨
    (decide (m < 1) = false ∧ decide (4294967295 < m) = false ∧ decide (t < 0) = false ∧ decide (281474976710655 < t) = false ∧ decide (Sb.form ⟨a, b, c, d⟩) = true ∧ (k == 1) = false ∧ (k == 2) = true ∧ decide (1 ≤ i) = true ∧ decide (i < 36) = false ∧ decide (Pl.valid ⟨k, m, i, t, ⟨a, b, c, d⟩⟩) = false) ∨
    (decide (m < 1) = false ∧ decide (4294967295 < m) = false ∧ decide (t < 0) = false ∧ decide (281474976710655 < t) = false ∧ decide (Sb.form ⟨a, b, c, d⟩) = true ∧ (k == 1) = false ∧ (k == 2) = true ∧ decide (1 ≤ i) = true ∧ decide (i < 36) = true ∧ decide (Pl.valid ⟨k, m, i, t, ⟨a, b, c, d⟩⟩) = true) := by
  by_cases h0 : m < 1
  · exact .inl ⟨decide_eq_true (by assumption), decide_eq_false (fun v => by have q := v.1; have q' := v.2.1; simp only at q q'; omega)⟩
  by_cases h1 : 4294967295 < m
  · exact .inr (.inl ⟨decide_eq_false (by assumption), decide_eq_true (by assumption), decide_eq_false (fun v => by have q := v.1; have q' := v.2.1; simp only at q q'; omega)⟩)
  by_cases h2 : t < 0
  · exact .inr (.inr (.inl ⟨decide_eq_false (by assumption), decide_eq_false (by assumption), decide_eq_true (by assumption), decide_eq_false (fun v => by have q := v.1; have q' := v.2.1; simp only at q q'; omega)⟩))
  by_cases h3 : 281474976710655 < t
  · exact .inr (.inr (.inr (.inl ⟨decide_eq_false (by assumption), decide_eq_false (by assumption), decide_eq_false (by assumption), decide_eq_true (by assumption), decide_eq_false (fun v => by have q := v.1; have q' := v.2.1; simp only at q q'; omega)⟩)))
  by_cases hf : Sb.form ⟨a, b, c, d⟩
  · by_cases hk1 : k = 1
    · by_cases hi0 : i = 0
      · exact .inr (.inr (.inr (.inr (.inr (.inl ⟨decide_eq_false (by assumption), decide_eq_false (by assumption), decide_eq_false (by assumption), decide_eq_false (by assumption), decide_eq_true (by assumption), beq_iff_eq.2 (by assumption), beq_iff_eq.2 (by assumption), decide_eq_true ⟨⟨by show 1 ≤ m; omega, by show m ≤ 4294967295; omega⟩, ⟨by show 0 ≤ t; omega, by show t ≤ 281474976710655; omega⟩, hf, .inl ⟨by assumption, by assumption⟩⟩⟩)))))
      · have hk2 : ¬ k = 2 := by omega
        exact .inr (.inr (.inr (.inr (.inr (.inr (.inl ⟨decide_eq_false (by assumption), decide_eq_false (by assumption), decide_eq_false (by assumption), decide_eq_false (by assumption), decide_eq_true (by assumption), beq_iff_eq.2 (by assumption), beq_eq_false_iff_ne.2 (by assumption), beq_eq_false_iff_ne.2 (by assumption), decide_eq_false (fun v => by have q := v.2.2.2; simp only at q; omega)⟩))))))
    · by_cases hk2 : k = 2
      · by_cases hi1 : 1 ≤ i
        · by_cases hi36 : i < 36
          · exact .inr (.inr (.inr (.inr (.inr (.inr (.inr (.inr (.inr (.inr (⟨decide_eq_false (by assumption), decide_eq_false (by assumption), decide_eq_false (by assumption), decide_eq_false (by assumption), decide_eq_true (by assumption), beq_eq_false_iff_ne.2 (by assumption), beq_iff_eq.2 (by assumption), decide_eq_true (by assumption), decide_eq_true (by assumption), decide_eq_true ⟨⟨by show 1 ≤ m; omega, by show m ≤ 4294967295; omega⟩, ⟨by show 0 ≤ t; omega, by show t ≤ 281474976710655; omega⟩, hf, .inr ⟨by assumption, by assumption, by show i ≤ 35; omega⟩⟩⟩))))))))))
          · exact .inr (.inr (.inr (.inr (.inr (.inr (.inr (.inr (.inr (.inl ⟨decide_eq_false (by assumption), decide_eq_false (by assumption), decide_eq_false (by assumption), decide_eq_false (by assumption), decide_eq_true (by assumption), beq_eq_false_iff_ne.2 (by assumption), beq_iff_eq.2 (by assumption), decide_eq_true (by assumption), decide_eq_false (by assumption), decide_eq_false (fun v => by have q := v.2.2.2; simp only at q; omega)⟩)))))))))
        · exact .inr (.inr (.inr (.inr (.inr (.inr (.inr (.inr (.inl ⟨decide_eq_false (by assumption), decide_eq_false (by assumption), decide_eq_false (by assumption), decide_eq_false (by assumption), decide_eq_true (by assumption), beq_eq_false_iff_ne.2 (by assumption), beq_iff_eq.2 (by assumption), decide_eq_false (by assumption), decide_eq_false (fun v => by have q := v.2.2.2; simp only at q; omega)⟩))))))))
      · exact .inr (.inr (.inr (.inr (.inr (.inr (.inr (.inl ⟨decide_eq_false (by assumption), decide_eq_false (by assumption), decide_eq_false (by assumption), decide_eq_false (by assumption), decide_eq_true (by assumption), beq_eq_false_iff_ne.2 (by assumption), beq_eq_false_iff_ne.2 (by assumption), decide_eq_false (fun v => by have q := v.2.2.2; simp only at q; omega)⟩)))))))
  · exact .inr (.inr (.inr (.inr (.inl ⟨decide_eq_false (by assumption), decide_eq_false (by assumption), decide_eq_false (by assumption), decide_eq_false (by assumption), decide_eq_false (by assumption), decide_eq_false (fun v => hf v.2.2.1)⟩))))
set_option maxHeartbeats 2000000 in
theorem refplvalid_any (k m i t a b c d : Int) (w : World) :
    Calls Tryd.prog 13 #[.agg #[.int .i64 k, .int .i64 m, .int .i64 i, .int .i64 t, .int .i64 a, .int .i64 b, .int .i64 c, .int .i64 d]] w fun r w' => r = .returned (.bool (decide (Pl.valid ⟨k, m, i, t, ⟨a, b, c, d⟩⟩))) ∧ Below w.heap.size w w' := by
  have hw := refvalid_ways k m i t a b c d
  have C2 := Lib.hid (fun W => refsbform_any a b c d W)
  generalize decide (Pl.valid ⟨k, m, i, t, ⟨a, b, c, d⟩⟩) = res at *
  generalize decide (Sb.form ⟨a, b, c, d⟩) = t2 at *
  have HS0 := Lib.hid (sd_new w #[.int .i64 k, .int .i64 m, .int .i64 i, .int .i64 t, .int .i64 a, .int .i64 b, .int .i64 c, .int .i64 d] 34)
  rcases hw with ⟨g0, rfl⟩ | ⟨g0, g1, rfl⟩ | ⟨g0, g1, g2, rfl⟩ | ⟨g0, g1, g2, g3, rfl⟩ | ⟨g0, g1, g2, g3, rfl, rfl⟩ | ⟨g0, g1, g2, g3, rfl, e0, e1, rfl⟩ | ⟨g0, g1, g2, g3, rfl, e0, e1, e2, rfl⟩ | ⟨g0, g1, g2, g3, rfl, e0, e1, rfl⟩ | ⟨g0, g1, g2, g3, rfl, e0, e1, e2, rfl⟩ | ⟨g0, g1, g2, g3, rfl, e0, e1, e2, e3, rfl⟩ | ⟨g0, g1, g2, g3, rfl, e0, e1, e2, e3, rfl⟩
  all_goals
    go_enter Tryd.func13, Tryd.ntmps13
    go_upto_region 1 with fail
    generalize w.alloc (.cells #[.int .i64 k, .int .i64 m, .int .i64 i, .int .i64 t, .int .i64 a, .int .i64 b, .int .i64 c, .int .i64 d] 34) = w0 at *
    obtain ⟨z0, z1, z2, z3, z4, z5, z6, z7⟩ := eight_cells HS0.out.1
    go_wp2_with fail
  iterate 4
    · go_ret
      exact ⟨rfl, HS0.out.2⟩
  all_goals
    refine (C2.out _).mono ?_
    rintro r w1 ⟨rfl, hb1⟩
    have HS1 := Lib.hid (HS0.out.next hb1 (by rfl) (by rfl) (by rfl) (by rfl))
    clear hb1 z0 z1 z2 z3 z4 z5 z6 z7
    obtain ⟨z0, z1, z2, z3, z4, z5, z6, z7⟩ := eight_cells HS1.out.1
    go_wp2_with fail
    go_ret
    exact ⟨rfl, HS1.out.2⟩
end Go.Proofs.YtpidbakjpfngnaaDoor
