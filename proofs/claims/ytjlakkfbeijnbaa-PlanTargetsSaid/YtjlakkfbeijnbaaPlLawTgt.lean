/-
  The walk of the law PlanTargets.
-/
import Derived.Test.YtjlakkfbeijnbaaPlLawRes
import Derived.OwnWalk
import Derived.Deep.DeepCutAuto
import Derived.Deep.CutBlock
import Derived.Deep.RegionHeld3
set_option maxRecDepth 100000
namespace Go.Proofs.Ytjlakkfbeijnbaa
open Go.RowKit
theorem target_ways (l : Sb.L) (s rs reg : Int) : ((Mg.resize l s rs reg).e != 0) = true ∧ (Mg.resize l s rs reg).l = Sb.L0 ∨
    (Mg.resize l s rs reg = ⟨⟨l.id + 1, l.ver, rs, reg⟩, 0⟩ ∧ (l.id == 4294967293) = true ∧ Mg.back l ⟨l.id + 1, l.ver, rs, reg⟩ = ⟨Sb.L0, 4⟩) ∨
    (Mg.resize l s rs reg = ⟨⟨l.id + 1, l.ver, rs, reg⟩, 0⟩ ∧ (l.id == 4294967293) = false ∧ Mg.back l ⟨l.id + 1, l.ver, rs, reg⟩ = ⟨⟨l.id + 1 + 1, l.ver, l.rs, l.reg⟩, 0⟩ ∧ Mg.may l ∧ Mg.fits l s rs reg ∧ ((reg != l.reg) = true ∨ ((reg != l.reg) = false ∧ (rs != l.rs) = true))) := by
  by_cases h : (Mg.resize l s rs reg).e = 0
  · obtain ⟨h1, h2, h3⟩ := Mg.targets l s rs reg h
    have hx : Mg.resize l s rs reg = ⟨⟨l.id + 1, l.ver, rs, reg⟩, 0⟩ := by
      generalize Mg.resize l s rs reg = x at *
      obtain ⟨xl, xe⟩ := x
      simp only at h h3
      rw [h, h3]; rfl
    have hm : Mg.may ⟨l.id + 1, l.ver, rs, reg⟩ ↔ l.id ≤ 4294967292 := by
      constructor
      · intro k
        have := k.2
        simp only at this
        omega
      · intro k
        exact ⟨h2.1, by show l.id + 1 ≤ _; omega⟩
    by_cases h4 : l.id = 4294967293
    · refine .inr (.inl ⟨hx, beq_iff_eq.2 h4, ?_⟩)
      unfold Mg.back
      rw [if_neg (fun k => by have := hm.1 k.2; omega)]
    · refine .inr (.inr ⟨hx, beq_eq_false_iff_ne.2 h4, ?_, h1, h2, ?_⟩)
      · unfold Mg.back
        rw [if_pos ⟨h1, hm.2 (by have := h1.2; omega)⟩]
      · by_cases h5 : reg = l.reg
        · refine .inr ⟨?_, ?_⟩
          · rw [h5]; exact ne_of_beq (beq_self_eq_true _)
          · exact bne_iff_ne.2 (fun k => h2.2.2 ⟨k, h5⟩)
        · exact .inl (bne_iff_ne.2 h5)
  · exact .inl ⟨bne_iff_ne.2 h, Mg.not_zero l s rs reg h⟩
set_option maxHeartbeats 4000000 in
theorem plantargets_any (a b c d s rs reg : Int) (w : World) : Calls Try.prog 5 #[.agg #[.int .i64 a, .int .i64 b, .int .i64 c, .int .i64 d, .int .i64 s, .int .i64 rs, .int .i64 reg]] w fun r w' => r = .returned (.bool true) ∧ Below w.heap.size w w' := by
  have C1 := Lib.hid (fun W => plresize_any a b c d s rs reg W)
  have hw := target_ways ⟨a, b, c, d⟩ s rs reg
  unfold MgIs at C1
  simp only at hw
  generalize Mg.resize ⟨a, b, c, d⟩ s rs reg = x at *
  obtain ⟨⟨i, v, r, g⟩, e⟩ := x
  simp only at C1 hw
  have HS0 := Lib.hid (sd_new w #[.int .i64 a, .int .i64 b, .int .i64 c, .int .i64 d, .int .i64 s, .int .i64 rs, .int .i64 reg] 25)
  go_enter Try.func5, Try.ntmps5
  go_upto_region 1 with fail
  generalize w.alloc (.cells #[.int .i64 a, .int .i64 b, .int .i64 c, .int .i64 d, .int .i64 s, .int .i64 rs, .int .i64 reg] 25) = w0 at *
  have HLT : Hid (w.heap.size < w0.heap.size) := HS0.out.lt
  go_cut [3, 4, 5, 6] (fun p q u v wx => p = .pointer (some ⟨w0.heap.size, 0, none⟩) ∧ q = .int .i64 s ∧ u = .int .i64 rs ∧ v = .int .i64 reg ∧ Hid (wx.heap[w0.heap.size]? = some (.cells #[.int .i64 a, .int .i64 b, .int .i64 c, .int .i64 d] 23 (0, 0)) ∧ Below w0.heap.size w0 wx))
  case first =>
    obtain ⟨c0, c1, c2, c3, c4, c5, c6⟩ := seven_cells HS0.out.1
    have n1 : w0.heap.size ≠ w.heap.size := by have := HLT.out; omega
    go_region_held3 (fun W => W.cell? ⟨w.heap.size, 0, none⟩ = some (.int .i64 a) ∧ W.cell? ⟨w.heap.size, 1, none⟩ = some (.int .i64 b) ∧ W.cell? ⟨w.heap.size, 2, none⟩ = some (.int .i64 c) ∧ W.cell? ⟨w.heap.size, 3, none⟩ = some (.int .i64 d) ∧ W.cell? ⟨w.heap.size, 4, none⟩ = some (.int .i64 s) ∧ W.cell? ⟨w.heap.size, 5, none⟩ = some (.int .i64 rs) ∧ W.cell? ⟨w.heap.size, 6, none⟩ = some (.int .i64 reg))
      (first
        | go_keep)
      (first
        | fail)
    all_goals
      (try go_wp2_with fail)
      go_meet
      exact ⟨rfl, rfl, rfl, rfl, heap_alloc_new w0 _, ((Below.refl _ w0).alloc (Nat.le_refl _) _).drew⟩
  case rest =>
    obtain ⟨rfl, rfl, rfl, rfl, HC⟩ := hcut
    have HL1 : Hid (wc.heap[w0.heap.size]? = some (.cells #[.int .i64 a, .int .i64 b, .int .i64 c, .int .i64 d] 23 (0, 0))) := HC.out.1
    have HB1 : Hid (Below w.heap.size w wc) := HS0.out.2.trans (HC.out.2.mono HS0.out.2.size)
    clear HC HS0
    generalize wc = w1 at *
    generalize w0.heap.size = gl at *
    obtain ⟨l0, l1, l2, l3⟩ := four_cells HL1.out
    go_wp2_with fail
    refine (C1.out _).mono ?_
    rintro r w2 ⟨rfl, hb2⟩
    have HB2 : Hid (Below w.heap.size w w2) := HB1.out.trans (hb2.mono HB1.out.size)
    have HL2 := Lib.hid (box_next HL1.out hb2 (by rfl))
    clear hb2
    clear l0 l1 l2 l3
    go_upto_region 3 with fail
    have HT3 : Hid ((w2.alloc (.cells #[.int .i64 i, .int .i64 v, .int .i64 r, .int .i64 g] 23)).heap[w2.heap.size]? = some (.cells #[.int .i64 i, .int .i64 v, .int .i64 r, .int .i64 g] 23 (0, 0))) := heap_alloc_new _ _
    have HL3 := Lib.hid (box_old (o' := .cells #[.int .i64 i, .int .i64 v, .int .i64 r, .int .i64 g] 23) HL2.out)
    have HB3 : Hid (Below w.heap.size w (w2.alloc (.cells #[.int .i64 i, .int .i64 v, .int .i64 r, .int .i64 g] 23))) := HB2.out.alloc HB2.out.size _
    generalize w2.alloc (.cells #[.int .i64 i, .int .i64 v, .int .i64 r, .int .i64 g] 23) = w3 at *
    generalize w2.heap.size = gt at *
    clear HL2
    rcases hw with ⟨he, hx⟩ | ⟨hx, ha, hb⟩ | ⟨hx, ha, hb, hm, hf, hd⟩
    · rw [show Sb.L0 = ⟨0, 0, 0, 0⟩ from rfl, Sb.L.mk.injEq] at hx
      obtain ⟨rfl, rfl, rfl, rfl⟩ := hx
      have hq := fun W => lay_self W 0 0 0 0
      go_wp2_with fail
      refine (plawake_any _).mono ?_
      rintro r w4 ⟨rfl, hb4⟩
      have HB4 : Hid (Below w.heap.size w w4) := HB3.out.trans (hb4.mono HB3.out.size)
      have HL4 := Lib.hid (box_next HL3.out hb4 (by rfl))
      have HT4 := Lib.hid (box_next HT3.out hb4 (by rfl))
      clear hb4
      obtain ⟨t0, t1, t2, t3⟩ := four_cells HT4.out
      go_wp2_with fail
      go_ret
      exact ⟨rfl, HB4.out⟩
    · rw [Mg.A.mk.injEq, Sb.L.mk.injEq] at hx
      obtain ⟨⟨hi, hv, hr, hg⟩, he⟩ := hx
      subst i v r g e
      have C2 := Lib.hid (fun W => plreturn_any a b c d (a + 1) b rs reg W)
      unfold MgIs at C2
      rw [hb] at C2
      simp only [Sb.L0] at C2
      clear hb
      obtain ⟨l0, l1, l2, l3⟩ := four_cells HL3.out
      obtain ⟨t0, t1, t2, t3⟩ := four_cells HT3.out
      go_wp2_with fail
      refine (C2.out _).mono ?_
      rintro r w4 ⟨rfl, hb4⟩
      have HB4 : Hid (Below w.heap.size w w4) := HB3.out.trans (hb4.mono HB3.out.size)
      have HL4 := Lib.hid (box_next HL3.out hb4 (by rfl))
      have HT4 := Lib.hid (box_next HT3.out hb4 (by rfl))
      clear hb4
      clear l0 l1 l2 l3 t0 t1 t2 t3
      go_upto_region 6 with fail
      have HK5 : Hid ((w4.alloc (.cells #[.int .i64 0, .int .i64 0, .int .i64 0, .int .i64 0] 23)).heap[w4.heap.size]? = some (.cells #[.int .i64 0, .int .i64 0, .int .i64 0, .int .i64 0] 23 (0, 0))) := heap_alloc_new _ _
      have HL5 := Lib.hid (box_old (o' := .cells #[.int .i64 0, .int .i64 0, .int .i64 0, .int .i64 0] 23) HL4.out)
      have HT5 := Lib.hid (box_old (o' := .cells #[.int .i64 0, .int .i64 0, .int .i64 0, .int .i64 0] 23) HT4.out)
      have HB5 : Hid (Below w.heap.size w (w4.alloc (.cells #[.int .i64 0, .int .i64 0, .int .i64 0, .int .i64 0] 23))) := HB4.out.alloc HB4.out.size _
      generalize w4.alloc (.cells #[.int .i64 0, .int .i64 0, .int .i64 0, .int .i64 0] 23) = w5 at *
      generalize w4.heap.size = gk at *
      clear HL4 HT4
      obtain ⟨l0, l1, l2, l3⟩ := four_cells HL5.out
      go_wp2_with fail
      refine (plawake_any _).mono ?_
      rintro r w6 ⟨rfl, hb6⟩
      have HB6 : Hid (Below w.heap.size w w6) := HB5.out.trans (hb6.mono HB5.out.size)
      have HL6 := Lib.hid (box_next HL5.out hb6 (by rfl))
      have HT6 := Lib.hid (box_next HT5.out hb6 (by rfl))
      have HK6 := Lib.hid (box_next HK5.out hb6 (by rfl))
      clear hb6
      go_wp2_with fail
      go_ret
      exact ⟨rfl, HB6.out⟩
    · rw [Mg.A.mk.injEq, Sb.L.mk.injEq] at hx
      obtain ⟨⟨hi, hv, hr, hg⟩, he⟩ := hx
      subst i v r g e
      have C2 := Lib.hid (fun W => plreturn_any a b c d (a + 1) b rs reg W)
      unfold MgIs at C2
      rw [hb] at C2
      simp only at C2
      clear hb
      have CF : Hid (∀ W, Calls Try.prog 13 #[.agg #[.int .i64 (a + 1), .int .i64 b, .int .i64 rs, .int .i64 reg]] W fun r w' => r = .returned (.bool true) ∧ Below W.heap.size W w') := fun W => by
        have h := refsbform_any (a + 1) b rs reg W
        rwa [decide_eq_true (show Sb.form ⟨a + 1, b, rs, reg⟩ from hf.1)] at h
      have h1 := hm.1.1
      have h2 := hm.2
      have h3 := hf.2.1
      have h4 := form_small (show Sb.form ⟨a + 1, b, rs, reg⟩ from hf.1)
      simp only at h1 h2
      have m1 : wrap64 (a + 1) = a + 1 := by unfold wrap64; omega
      have m2 : wrap64 (a + 1 + 1) = a + 1 + 1 := by unfold wrap64; omega
      have m3 : wrap64 (reg * rs) = reg * rs := by unfold wrap64; omega
      have m4 : wrap64 (74 + reg * rs) = 74 + reg * rs := by unfold wrap64; omega
      clear hm hf h4
      obtain ⟨l0, l1, l2, l3⟩ := four_cells HL3.out
      obtain ⟨t0, t1, t2, t3⟩ := four_cells HT3.out
      go_wp2_with fail
      refine (C2.out _).mono ?_
      rintro r w4 ⟨rfl, hb4⟩
      have HB4 : Hid (Below w.heap.size w w4) := HB3.out.trans (hb4.mono HB3.out.size)
      have HL4 := Lib.hid (box_next HL3.out hb4 (by rfl))
      have HT4 := Lib.hid (box_next HT3.out hb4 (by rfl))
      clear hb4
      clear l0 l1 l2 l3 t0 t1 t2 t3
      go_upto_region 6 with fail
      have HK5 : Hid ((w4.alloc (.cells #[.int .i64 (a + 1 + 1), .int .i64 b, .int .i64 c, .int .i64 d] 23)).heap[w4.heap.size]? = some (.cells #[.int .i64 (a + 1 + 1), .int .i64 b, .int .i64 c, .int .i64 d] 23 (0, 0))) := heap_alloc_new _ _
      have HL5 := Lib.hid (box_old (o' := .cells #[.int .i64 (a + 1 + 1), .int .i64 b, .int .i64 c, .int .i64 d] 23) HL4.out)
      have HT5 := Lib.hid (box_old (o' := .cells #[.int .i64 (a + 1 + 1), .int .i64 b, .int .i64 c, .int .i64 d] 23) HT4.out)
      have HB5 : Hid (Below w.heap.size w (w4.alloc (.cells #[.int .i64 (a + 1 + 1), .int .i64 b, .int .i64 c, .int .i64 d] 23))) := HB4.out.alloc HB4.out.size _
      generalize w4.alloc (.cells #[.int .i64 (a + 1 + 1), .int .i64 b, .int .i64 c, .int .i64 d] 23) = w5 at *
      generalize w4.heap.size = gk at *
      clear HL4 HT4
      obtain ⟨l0, l1, l2, l3⟩ := four_cells HL5.out
      go_wp2_with fail
      refine (plawake_any _).mono ?_
      rintro r w6 ⟨rfl, hb6⟩
      have HB6 : Hid (Below w.heap.size w w6) := HB5.out.trans (hb6.mono HB5.out.size)
      have HL6 := Lib.hid (box_next HL5.out hb6 (by rfl))
      have HT6 := Lib.hid (box_next HT5.out hb6 (by rfl))
      have HK6 := Lib.hid (box_next HK5.out hb6 (by rfl))
      clear hb6
      clear l0 l1 l2 l3
      obtain ⟨t0, t1, t2, t3⟩ := four_cells HT6.out
      go_wp2_with fail
      refine (CF.out _).mono ?_
      rintro r w7 ⟨rfl, hb7⟩
      have HB7 : Hid (Below w.heap.size w w7) := HB6.out.trans (hb7.mono HB6.out.size)
      have HL7 := Lib.hid (box_next HL6.out hb7 (by rfl))
      have HT7 := Lib.hid (box_next HT6.out hb7 (by rfl))
      have HK7 := Lib.hid (box_next HK6.out hb7 (by rfl))
      clear hb7
      clear t0 t1 t2 t3
      obtain ⟨l0, l1, l2, l3⟩ := four_cells HL7.out
      obtain ⟨t0, t1, t2, t3⟩ := four_cells HT7.out
      obtain ⟨k0, k1, k2, k3⟩ := four_cells HK7.out
      rcases hd with hd | ⟨hd, hd'⟩
      all_goals
        go_wp2_with fail
        go_ret
        exact ⟨rfl, HB7.out⟩
end Go.Proofs.Ytjlakkfbeijnbaa
