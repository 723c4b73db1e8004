/-
  The walk of the law GeometryHalf.
-/
import Derived.Test.YtcjeobjklbmgiaaGmAwake
import Derived.Test.YtcjeobjklbmgiaaGmRefFree
import Derived.BigQuiet
import Derived.IntWalk
import Derived.Deep.DeepCutAuto
import Derived.Deep.CutBlock
import Derived.Deep.RegionHeld3
set_option maxRecDepth 100000
namespace Go.Proofs.Ytcjeobjklbmgiaa
open Go.RowKit
/-- Two layouts in boxes of their own. -/
theorem two_stored {w W : World} {g : Nat} {o1 : Obj} {a b c d c' d' : Value} {t : TypeId} (h : Sd w w.heap.size o1 W) (k : W.heap[g]? = some (.cells #[a, b, c, d] t (0, 0))) (hl : w.heap.size < g) :
    TwoAt w o1 (.cells #[a, b, c', d'] t (0, 0)) w.heap.size g ((W.setCell ⟨g, 2, none⟩ c').setCell ⟨g, 3, none⟩ d') := by
  have h1 : Sd w w.heap.size o1 ((W.setCell ⟨g, 2, none⟩ c').setCell ⟨g, 3, none⟩ d') := sd_over (sd_over h (Nat.ne_of_lt hl) (Nat.le_of_lt hl)) (Nat.ne_of_lt hl) (Nat.le_of_lt hl)
  exact ⟨h1.1, by simp [World.setCell, Array.getElem?_modify, k], h1.2⟩
theorem half_ways (t0 t1 t2 t3 : Bool) : t0 = false ∨ (t0 = true ∧ t1 = false) ∨ (t0 = true ∧ t1 = true ∧ t2 = true) ∨ (t0 = true ∧ t1 = true ∧ t2 = false ∧ t3 = true) ∨ (t0 = true ∧ t1 = true ∧ t2 = false ∧ t3 = false) := by
  cases t0 <;> cases t1 <;> cases t2 <;> cases t3 <;> simp
set_option maxHeartbeats 4000000 in
theorem geometryhalf_any (a b c d i k : Int) (w : World) : Calls Try.prog 7 #[.agg #[.int .i64 a, .int .i64 b, .int .i64 c, .int .i64 d], .int .i64 i, .int .i64 k] w fun r w' => r = .returned (.bool true) ∧ Below w.heap.size w w' := by
  have HS0 := Lib.hid (sd_new w #[.int .i64 a, .int .i64 b, .int .i64 c, .int .i64 d] 23)
  have CF := Lib.hid (fun W => refsbform_any a b c d W)
  obtain ⟨e, he⟩ : ∃ e, wrap64 (c.tdiv 2) = e := ⟨_, rfl⟩
  have CH := Lib.hid (fun W => refsbform_any a b e 16 W)
  rcases half_ways (decide (Sb.form ⟨a, b, c, d⟩)) (decide (Sb.form ⟨a, b, e, 16⟩)) (decide (k < 0)) (decide (16 ≤ k)) with t0 | ⟨t0, t1⟩ | ⟨t0, t1, t2⟩ | ⟨t0, t1, t2, t3⟩ | ⟨t0, t1, t2, t3⟩
  · rw [t0] at CF
    clear t0
    go_enter Try.func7, Try.ntmps7
    go_upto_region 1 with fail
    generalize w.alloc (.cells #[.int .i64 a, .int .i64 b, .int .i64 c, .int .i64 d] 23) = w0 at *
    obtain ⟨z0, z1, z2, z3⟩ := four_cells HS0.out.1
    go_upto_region 2 with fail
    have HL1 : Hid (w.heap.size < w0.heap.size) := HS0.out.lt
    have HH1 : Hid ((w0.alloc (.cells #[.int .i64 a, .int .i64 b, .int .i64 c, .int .i64 d] 23)).heap[w0.heap.size]? = some (.cells #[.int .i64 a, .int .i64 b, .int .i64 c, .int .i64 d] 23 (0, 0))) := heap_alloc_new _ _
    have HS1 : Hid (Sd w w.heap.size (.cells #[.int .i64 a, .int .i64 b, .int .i64 c, .int .i64 d] 23 (0, 0)) (w0.alloc (.cells #[.int .i64 a, .int .i64 b, .int .i64 c, .int .i64 d] 23))) := HS0.out.next ((Below.refl _ w0).alloc (Nat.le_refl _) _) rfl rfl rfl rfl
    clear z0 z1 z2 z3 HS0
    generalize w0.alloc (.cells #[.int .i64 a, .int .i64 b, .int .i64 c, .int .i64 d] 23) = w1 at *
    generalize w0.heap.size = g at *
    obtain ⟨z0, z1, z2, z3⟩ := four_cells HS1.out.1
    obtain ⟨y0, y1, y2, y3⟩ := four_cells HH1.out
    obtain ⟨f0, f1, f2, f3⟩ := four_frozen HH1.out
    go_upto_region 3 with fail
    have HT2 : Hid (TwoAt w (.cells #[.int .i64 a, .int .i64 b, .int .i64 c, .int .i64 d] 23 (0, 0)) (.cells #[.int .i64 a, .int .i64 b, .int .i64 e, .int .i64 16] 23 (0, 0)) w.heap.size g ((w1.setCell ⟨g, 2, none⟩ (.int .i64 e)).setCell ⟨g, 3, none⟩ (.int .i64 16))) := two_stored HS1.out HH1.out HL1.out
    clear z0 z1 z2 z3 y0 y1 y2 y3 f0 f1 f2 f3 HS1 HH1
    generalize (w1.setCell ⟨g, 2, none⟩ (.int .i64 e)).setCell ⟨g, 3, none⟩ (.int .i64 16) = w2 at *
    obtain ⟨z0, z1, z2, z3⟩ := four_cells HT2.out.1
    obtain ⟨y0, y1, y2, y3⟩ := four_cells HT2.out.2.1
    go_wp2_with fail
    refine (CF.out _).mono ?_
    rintro r w3 ⟨rfl, hb3⟩
    have HT3 := Lib.hid (two_next HT2.out hb3)
    clear hb3 z0 z1 z2 z3 y0 y1 y2 y3
    obtain ⟨z0, z1, z2, z3⟩ := four_cells HT3.out.1
    obtain ⟨y0, y1, y2, y3⟩ := four_cells HT3.out.2.1
    go_wp2_with fail
    refine ((fun W => gmawake_any W) _).mono ?_
    rintro r w4 ⟨rfl, hb4⟩
    have HT4 := Lib.hid (two_next HT3.out hb4)
    clear hb4 z0 z1 z2 z3 y0 y1 y2 y3
    obtain ⟨z0, z1, z2, z3⟩ := four_cells HT4.out.1
    obtain ⟨y0, y1, y2, y3⟩ := four_cells HT4.out.2.1
    go_wp2_with fail
    go_ret
    exact ⟨rfl, HT4.out.2.2⟩
  · rw [t0] at CF
    rw [t1] at CH
    clear t0 t1
    go_enter Try.func7, Try.ntmps7
    go_upto_region 1 with fail
    generalize w.alloc (.cells #[.int .i64 a, .int .i64 b, .int .i64 c, .int .i64 d] 23) = w0 at *
    obtain ⟨z0, z1, z2, z3⟩ := four_cells HS0.out.1
    go_upto_region 2 with fail
    have HL1 : Hid (w.heap.size < w0.heap.size) := HS0.out.lt
    have HH1 : Hid ((w0.alloc (.cells #[.int .i64 a, .int .i64 b, .int .i64 c, .int .i64 d] 23)).heap[w0.heap.size]? = some (.cells #[.int .i64 a, .int .i64 b, .int .i64 c, .int .i64 d] 23 (0, 0))) := heap_alloc_new _ _
    have HS1 : Hid (Sd w w.heap.size (.cells #[.int .i64 a, .int .i64 b, .int .i64 c, .int .i64 d] 23 (0, 0)) (w0.alloc (.cells #[.int .i64 a, .int .i64 b, .int .i64 c, .int .i64 d] 23))) := HS0.out.next ((Below.refl _ w0).alloc (Nat.le_refl _) _) rfl rfl rfl rfl
    clear z0 z1 z2 z3 HS0
    generalize w0.alloc (.cells #[.int .i64 a, .int .i64 b, .int .i64 c, .int .i64 d] 23) = w1 at *
    generalize w0.heap.size = g at *
    obtain ⟨z0, z1, z2, z3⟩ := four_cells HS1.out.1
    obtain ⟨y0, y1, y2, y3⟩ := four_cells HH1.out
    obtain ⟨f0, f1, f2, f3⟩ := four_frozen HH1.out
    go_upto_region 3 with fail
    have HT2 : Hid (TwoAt w (.cells #[.int .i64 a, .int .i64 b, .int .i64 c, .int .i64 d] 23 (0, 0)) (.cells #[.int .i64 a, .int .i64 b, .int .i64 e, .int .i64 16] 23 (0, 0)) w.heap.size g ((w1.setCell ⟨g, 2, none⟩ (.int .i64 e)).setCell ⟨g, 3, none⟩ (.int .i64 16))) := two_stored HS1.out HH1.out HL1.out
    clear z0 z1 z2 z3 y0 y1 y2 y3 f0 f1 f2 f3 HS1 HH1
    generalize (w1.setCell ⟨g, 2, none⟩ (.int .i64 e)).setCell ⟨g, 3, none⟩ (.int .i64 16) = w2 at *
    obtain ⟨z0, z1, z2, z3⟩ := four_cells HT2.out.1
    obtain ⟨y0, y1, y2, y3⟩ := four_cells HT2.out.2.1
    go_wp2_with fail
    refine (CF.out _).mono ?_
    rintro r w3 ⟨rfl, hb3⟩
    have HT3 := Lib.hid (two_next HT2.out hb3)
    clear hb3 z0 z1 z2 z3 y0 y1 y2 y3
    obtain ⟨z0, z1, z2, z3⟩ := four_cells HT3.out.1
    obtain ⟨y0, y1, y2, y3⟩ := four_cells HT3.out.2.1
    go_wp2_with fail
    refine (CH.out _).mono ?_
    rintro r w4 ⟨rfl, hb4⟩
    have HT4 := Lib.hid (two_next HT3.out hb4)
    clear hb4 z0 z1 z2 z3 y0 y1 y2 y3
    obtain ⟨z0, z1, z2, z3⟩ := four_cells HT4.out.1
    obtain ⟨y0, y1, y2, y3⟩ := four_cells HT4.out.2.1
    go_wp2_with fail
    refine ((fun W => gmawake_any W) _).mono ?_
    rintro r w5 ⟨rfl, hb5⟩
    have HT5 := Lib.hid (two_next HT4.out hb5)
    clear hb5 z0 z1 z2 z3 y0 y1 y2 y3
    obtain ⟨z0, z1, z2, z3⟩ := four_cells HT5.out.1
    obtain ⟨y0, y1, y2, y3⟩ := four_cells HT5.out.2.1
    go_wp2_with fail
    go_ret
    exact ⟨rfl, HT5.out.2.2⟩
  · rw [t0] at CF
    rw [t1] at CH
    clear t0 t1
    go_enter Try.func7, Try.ntmps7
    go_upto_region 1 with fail
    generalize w.alloc (.cells #[.int .i64 a, .int .i64 b, .int .i64 c, .int .i64 d] 23) = w0 at *
    obtain ⟨z0, z1, z2, z3⟩ := four_cells HS0.out.1
    go_upto_region 2 with fail
    have HL1 : Hid (w.heap.size < w0.heap.size) := HS0.out.lt
    have HH1 : Hid ((w0.alloc (.cells #[.int .i64 a, .int .i64 b, .int .i64 c, .int .i64 d] 23)).heap[w0.heap.size]? = some (.cells #[.int .i64 a, .int .i64 b, .int .i64 c, .int .i64 d] 23 (0, 0))) := heap_alloc_new _ _
    have HS1 : Hid (Sd w w.heap.size (.cells #[.int .i64 a, .int .i64 b, .int .i64 c, .int .i64 d] 23 (0, 0)) (w0.alloc (.cells #[.int .i64 a, .int .i64 b, .int .i64 c, .int .i64 d] 23))) := HS0.out.next ((Below.refl _ w0).alloc (Nat.le_refl _) _) rfl rfl rfl rfl
    clear z0 z1 z2 z3 HS0
    generalize w0.alloc (.cells #[.int .i64 a, .int .i64 b, .int .i64 c, .int .i64 d] 23) = w1 at *
    generalize w0.heap.size = g at *
    obtain ⟨z0, z1, z2, z3⟩ := four_cells HS1.out.1
    obtain ⟨y0, y1, y2, y3⟩ := four_cells HH1.out
    obtain ⟨f0, f1, f2, f3⟩ := four_frozen HH1.out
    go_upto_region 3 with fail
    have HT2 : Hid (TwoAt w (.cells #[.int .i64 a, .int .i64 b, .int .i64 c, .int .i64 d] 23 (0, 0)) (.cells #[.int .i64 a, .int .i64 b, .int .i64 e, .int .i64 16] 23 (0, 0)) w.heap.size g ((w1.setCell ⟨g, 2, none⟩ (.int .i64 e)).setCell ⟨g, 3, none⟩ (.int .i64 16))) := two_stored HS1.out HH1.out HL1.out
    clear z0 z1 z2 z3 y0 y1 y2 y3 f0 f1 f2 f3 HS1 HH1
    generalize (w1.setCell ⟨g, 2, none⟩ (.int .i64 e)).setCell ⟨g, 3, none⟩ (.int .i64 16) = w2 at *
    obtain ⟨z0, z1, z2, z3⟩ := four_cells HT2.out.1
    obtain ⟨y0, y1, y2, y3⟩ := four_cells HT2.out.2.1
    go_wp2_with fail
    refine (CF.out _).mono ?_
    rintro r w3 ⟨rfl, hb3⟩
    have HT3 := Lib.hid (two_next HT2.out hb3)
    clear hb3 z0 z1 z2 z3 y0 y1 y2 y3
    obtain ⟨z0, z1, z2, z3⟩ := four_cells HT3.out.1
    obtain ⟨y0, y1, y2, y3⟩ := four_cells HT3.out.2.1
    go_wp2_with fail
    refine (CH.out _).mono ?_
    rintro r w4 ⟨rfl, hb4⟩
    have HT4 := Lib.hid (two_next HT3.out hb4)
    clear hb4 z0 z1 z2 z3 y0 y1 y2 y3
    obtain ⟨z0, z1, z2, z3⟩ := four_cells HT4.out.1
    obtain ⟨y0, y1, y2, y3⟩ := four_cells HT4.out.2.1
    go_wp2_with fail
    refine ((fun W => gmawake_any W) _).mono ?_
    rintro r w5 ⟨rfl, hb5⟩
    have HT5 := Lib.hid (two_next HT4.out hb5)
    clear hb5 z0 z1 z2 z3 y0 y1 y2 y3
    obtain ⟨z0, z1, z2, z3⟩ := four_cells HT5.out.1
    obtain ⟨y0, y1, y2, y3⟩ := four_cells HT5.out.2.1
    go_wp2_with fail
    go_ret
    exact ⟨rfl, HT5.out.2.2⟩
  · rw [t0] at CF
    rw [t1] at CH
    clear t0 t1
    go_enter Try.func7, Try.ntmps7
    go_upto_region 1 with fail
    generalize w.alloc (.cells #[.int .i64 a, .int .i64 b, .int .i64 c, .int .i64 d] 23) = w0 at *
    obtain ⟨z0, z1, z2, z3⟩ := four_cells HS0.out.1
    go_upto_region 2 with fail
    have HL1 : Hid (w.heap.size < w0.heap.size) := HS0.out.lt
    have HH1 : Hid ((w0.alloc (.cells #[.int .i64 a, .int .i64 b, .int .i64 c, .int .i64 d] 23)).heap[w0.heap.size]? = some (.cells #[.int .i64 a, .int .i64 b, .int .i64 c, .int .i64 d] 23 (0, 0))) := heap_alloc_new _ _
    have HS1 : Hid (Sd w w.heap.size (.cells #[.int .i64 a, .int .i64 b, .int .i64 c, .int .i64 d] 23 (0, 0)) (w0.alloc (.cells #[.int .i64 a, .int .i64 b, .int .i64 c, .int .i64 d] 23))) := HS0.out.next ((Below.refl _ w0).alloc (Nat.le_refl _) _) rfl rfl rfl rfl
    clear z0 z1 z2 z3 HS0
    generalize w0.alloc (.cells #[.int .i64 a, .int .i64 b, .int .i64 c, .int .i64 d] 23) = w1 at *
    generalize w0.heap.size = g at *
    obtain ⟨z0, z1, z2, z3⟩ := four_cells HS1.out.1
    obtain ⟨y0, y1, y2, y3⟩ := four_cells HH1.out
    obtain ⟨f0, f1, f2, f3⟩ := four_frozen HH1.out
    go_upto_region 3 with fail
    have HT2 : Hid (TwoAt w (.cells #[.int .i64 a, .int .i64 b, .int .i64 c, .int .i64 d] 23 (0, 0)) (.cells #[.int .i64 a, .int .i64 b, .int .i64 e, .int .i64 16] 23 (0, 0)) w.heap.size g ((w1.setCell ⟨g, 2, none⟩ (.int .i64 e)).setCell ⟨g, 3, none⟩ (.int .i64 16))) := two_stored HS1.out HH1.out HL1.out
    clear z0 z1 z2 z3 y0 y1 y2 y3 f0 f1 f2 f3 HS1 HH1
    generalize (w1.setCell ⟨g, 2, none⟩ (.int .i64 e)).setCell ⟨g, 3, none⟩ (.int .i64 16) = w2 at *
    obtain ⟨z0, z1, z2, z3⟩ := four_cells HT2.out.1
    obtain ⟨y0, y1, y2, y3⟩ := four_cells HT2.out.2.1
    go_wp2_with fail
    refine (CF.out _).mono ?_
    rintro r w3 ⟨rfl, hb3⟩
    have HT3 := Lib.hid (two_next HT2.out hb3)
    clear hb3 z0 z1 z2 z3 y0 y1 y2 y3
    obtain ⟨z0, z1, z2, z3⟩ := four_cells HT3.out.1
    obtain ⟨y0, y1, y2, y3⟩ := four_cells HT3.out.2.1
    go_wp2_with fail
    refine (CH.out _).mono ?_
    rintro r w4 ⟨rfl, hb4⟩
    have HT4 := Lib.hid (two_next HT3.out hb4)
    clear hb4 z0 z1 z2 z3 y0 y1 y2 y3
    obtain ⟨z0, z1, z2, z3⟩ := four_cells HT4.out.1
    obtain ⟨y0, y1, y2, y3⟩ := four_cells HT4.out.2.1
    go_wp2_with fail
    refine ((fun W => gmawake_any W) _).mono ?_
    rintro r w5 ⟨rfl, hb5⟩
    have HT5 := Lib.hid (two_next HT4.out hb5)
    clear hb5 z0 z1 z2 z3 y0 y1 y2 y3
    obtain ⟨z0, z1, z2, z3⟩ := four_cells HT5.out.1
    obtain ⟨y0, y1, y2, y3⟩ := four_cells HT5.out.2.1
    go_wp2_with fail
    go_ret
    exact ⟨rfl, HT5.out.2.2⟩
  · rw [t0] at CF
    rw [t1] at CH
    have hf := of_decide_eq_true t0
    have hh := of_decide_eq_true t1
    have h4 := Gm.form_nums hf
    simp only at h4
    have he2 : e = c.tdiv 2 := by
      have ht : c.tdiv 2 = c / 2 := Int.tdiv_eq_ediv_of_nonneg (by omega)
      rw [← he, ht]; unfold wrap64; omega
    obtain ⟨j, hj, hij⟩ := gm_mod i d h4.2.2
    have hd0 : (d == 0) = false := by rw [beq_eq_false_iff_ne]; omega
    have hd1 : d ≠ 0 := by omega
    have hc2 : c = 2 * e := by
      have h5 := Gm.half_of hf.2.2.1 (by rw [← he2]; exact hh.2.2.1)
      simp only at h5
      omega
    have hjl : (j : Int) ≤ 16 := by omega
    have CO := Lib.hid (fun W => gmover_any a b c d (j : Int) a b e 16 k W)
    have HV : Hid (decide (Gm.over ⟨a, b, c, d⟩ (j : Int) ⟨a, b, e, 16⟩ k) = ((k == 2 * (j : Int)) || (k == 2 * (j : Int) + 1))) := by
      show _ = _
      have h6 := Gm.over_half hf hh hc2 rfl (i := (j : Int)) (k := k) (by omega) hj (by have := of_decide_eq_false t2; omega) (by have := of_decide_eq_false t3; omega)
      rw [decide_eq_decide.2 h6, Bool.decide_or]
      congr 1 <;> exact (Bool.beq_eq_decide_eq _ _).symm
    generalize decide (Gm.over ⟨a, b, c, d⟩ (j : Int) ⟨a, b, e, 16⟩ k) = t at *
    have m1 : wrap64 (2 * (j : Int)) = 2 * (j : Int) := by unfold wrap64; omega
    have m2 : wrap64 (2 * (j : Int) + 1) = 2 * (j : Int) + 1 := by unfold wrap64; omega
    clear t0 t1 hf hh h4 hc2 he2 hj
    generalize hK1 : (k == 2 * (j : Int)) = K1 at *
    generalize hK2 : (k == 2 * (j : Int) + 1) = K2 at *
    go_enter Try.func7, Try.ntmps7
    go_upto_region 1 with fail
    generalize w.alloc (.cells #[.int .i64 a, .int .i64 b, .int .i64 c, .int .i64 d] 23) = w0 at *
    obtain ⟨z0, z1, z2, z3⟩ := four_cells HS0.out.1
    go_upto_region 2 with fail
    have HL1 : Hid (w.heap.size < w0.heap.size) := HS0.out.lt
    have HH1 : Hid ((w0.alloc (.cells #[.int .i64 a, .int .i64 b, .int .i64 c, .int .i64 d] 23)).heap[w0.heap.size]? = some (.cells #[.int .i64 a, .int .i64 b, .int .i64 c, .int .i64 d] 23 (0, 0))) := heap_alloc_new _ _
    have HS1 : Hid (Sd w w.heap.size (.cells #[.int .i64 a, .int .i64 b, .int .i64 c, .int .i64 d] 23 (0, 0)) (w0.alloc (.cells #[.int .i64 a, .int .i64 b, .int .i64 c, .int .i64 d] 23))) := HS0.out.next ((Below.refl _ w0).alloc (Nat.le_refl _) _) rfl rfl rfl rfl
    clear z0 z1 z2 z3 HS0
    generalize w0.alloc (.cells #[.int .i64 a, .int .i64 b, .int .i64 c, .int .i64 d] 23) = w1 at *
    generalize w0.heap.size = g at *
    obtain ⟨z0, z1, z2, z3⟩ := four_cells HS1.out.1
    obtain ⟨y0, y1, y2, y3⟩ := four_cells HH1.out
    obtain ⟨f0, f1, f2, f3⟩ := four_frozen HH1.out
    go_upto_region 3 with fail
    have HT2 : Hid (TwoAt w (.cells #[.int .i64 a, .int .i64 b, .int .i64 c, .int .i64 d] 23 (0, 0)) (.cells #[.int .i64 a, .int .i64 b, .int .i64 e, .int .i64 16] 23 (0, 0)) w.heap.size g ((w1.setCell ⟨g, 2, none⟩ (.int .i64 e)).setCell ⟨g, 3, none⟩ (.int .i64 16))) := two_stored HS1.out HH1.out HL1.out
    clear z0 z1 z2 z3 y0 y1 y2 y3 f0 f1 f2 f3 HS1 HH1
    generalize (w1.setCell ⟨g, 2, none⟩ (.int .i64 e)).setCell ⟨g, 3, none⟩ (.int .i64 16) = w2 at *
    obtain ⟨z0, z1, z2, z3⟩ := four_cells HT2.out.1
    obtain ⟨y0, y1, y2, y3⟩ := four_cells HT2.out.2.1
    go_wp2_with fail
    refine (CF.out _).mono ?_
    rintro r w3 ⟨rfl, hb3⟩
    have HT3 := Lib.hid (two_next HT2.out hb3)
    clear hb3 z0 z1 z2 z3 y0 y1 y2 y3
    obtain ⟨z0, z1, z2, z3⟩ := four_cells HT3.out.1
    obtain ⟨y0, y1, y2, y3⟩ := four_cells HT3.out.2.1
    go_wp2_with fail
    refine (CH.out _).mono ?_
    rintro r w4 ⟨rfl, hb4⟩
    have HT4 := Lib.hid (two_next HT3.out hb4)
    clear hb4 z0 z1 z2 z3 y0 y1 y2 y3
    obtain ⟨z0, z1, z2, z3⟩ := four_cells HT4.out.1
    obtain ⟨y0, y1, y2, y3⟩ := four_cells HT4.out.2.1
    go_upto_region 5 with fail
    go_cut [1] (fun s wx => s = .int .i64 (j : Int) ∧ Hid (TwoAt w (.cells #[.int .i64 a, .int .i64 b, .int .i64 c, .int .i64 d] 23 (0, 0)) (.cells #[.int .i64 a, .int .i64 b, .int .i64 e, .int .i64 16] 23 (0, 0)) w.heap.size g wx))
    case first =>
      go_quiet (fail)
      (try go_wp2_with fail)
      go_meet
      exact ⟨rfl, HT4.out.1, HT4.out.2.1, below_drawn HT4.out.2.2 _⟩
    case rest =>
      obtain ⟨rfl, HT5⟩ := hcut
      generalize wc = w5 at *
      clear z0 z1 z2 z3 y0 y1 y2 y3
      obtain ⟨z0, z1, z2, z3⟩ := four_cells HT5.out.1
      obtain ⟨y0, y1, y2, y3⟩ := four_cells HT5.out.2.1
      cases K1
      all_goals
        go_wp2_with fail
        refine ((fun W => gmawake_any W) _).mono ?_
        rintro r w6 ⟨rfl, hb6⟩
        have HT6 := Lib.hid (two_next HT5.out hb6)
        clear hb6 z0 z1 z2 z3 y0 y1 y2 y3
        obtain ⟨z0, z1, z2, z3⟩ := four_cells HT6.out.1
        obtain ⟨y0, y1, y2, y3⟩ := four_cells HT6.out.2.1
        go_wp2_with fail
        refine (CO.out _).mono ?_
        rintro r w7 ⟨rfl, hb7⟩
        have HT7 := Lib.hid (two_next HT6.out hb7)
        clear hb7 z0 z1 z2 z3 y0 y1 y2 y3
        obtain ⟨z0, z1, z2, z3⟩ := four_cells HT7.out.1
        obtain ⟨y0, y1, y2, y3⟩ := four_cells HT7.out.2.1
        go_wp2_with fail
        go_ret
        exact ⟨ret_bool (by rw [HV.out]; first | rfl | exact beq_self_eq_true _), HT7.out.2.2⟩
end Go.Proofs.Ytcjeobjklbmgiaa
