/-
  The walk of the law PlanOthers.
-/
import Derived.Test.YtjlakkfbeijnbaaPlLawRes
import Derived.OwnWalk
import Derived.Deep.DeepCutAuto
import Derived.Deep.CutBlock
import Derived.Deep.RegionHeld3
set_option maxRecDepth 100000
namespace Go.Proofs.Ytjlakkfbeijnbaa
open Go.RowKit
set_option maxHeartbeats 4000000 in
theorem planothers_any (a b c d a' b' c' d' : Int) (w : World) : Calls Try.prog 4 #[.agg #[.int .i64 a, .int .i64 b, .int .i64 c, .int .i64 d], .agg #[.int .i64 a', .int .i64 b', .int .i64 c', .int .i64 d']] w fun r w' => r = .returned (.bool true) ∧ Below w.heap.size w w' := by
  have C1 := Lib.hid (fun W => plupgrade_any a b c d W)
  have C2 := Lib.hid (fun W => refplupgrade_any a b c d W)
  have C3 := Lib.hid (fun W => plreturn_any a b c d a' b' c' d' W)
  have C4 := Lib.hid (fun W => refplreturn_any a b c d a' b' c' d' W)
  unfold MgIs at C1 C2 C3 C4
  generalize Mg.upgrade ⟨a, b, c, d⟩ = x at *
  generalize Mg.back ⟨a, b, c, d⟩ ⟨a', b', c', d'⟩ = y at *
  obtain ⟨⟨i, v, r, g⟩, e⟩ := x
  obtain ⟨⟨i', v', r', g'⟩, e'⟩ := y
  simp only at C1 C2 C3 C4
  have hq := fun W => lay_self W i v r g
  have hq' := fun W => lay_self W i' v' r' g'
  have hee : (e == e) = true := beq_self_eq_true e
  have hee' : (e' == e') = true := beq_self_eq_true e'
  have HS0 := Lib.hid (sd2_new w #[.int .i64 a, .int .i64 b, .int .i64 c, .int .i64 d] #[.int .i64 a', .int .i64 b', .int .i64 c', .int .i64 d'] 23 23)
  go_enter Try.func4, Try.ntmps4
  go_upto_region 1 with fail
  generalize (w.alloc (.cells #[.int .i64 a, .int .i64 b, .int .i64 c, .int .i64 d] 23)).alloc (.cells #[.int .i64 a', .int .i64 b', .int .i64 c', .int .i64 d'] 23) = w1 at *
  have HL1 := Lib.hid HS0.out.1
  have HM1 := Lib.hid HS0.out.2.1
  have HB1 := Lib.hid HS0.out.2.2
  clear HS0
  obtain ⟨l0, l1, l2, l3⟩ := four_cells HL1.out
  go_wp2_with fail
  refine (C1.out _).mono ?_
  rintro r w2 ⟨rfl, hb2⟩
  have HB2 : Hid (Below w.heap.size w w2) := HB1.out.trans (hb2.mono HB1.out.size)
  have HL2 := Lib.hid (box_next HL1.out hb2 (by rfl))
  have HM2 := Lib.hid (box_next HM1.out hb2 (by rfl))
  clear hb2
  clear l0 l1 l2 l3
  go_upto_region 2 with fail
  have HT3 : Hid ((w2.alloc (.cells #[.int .i64 i, .int .i64 v, .int .i64 r, .int .i64 g] 23)).heap[w2.heap.size]? = some (.cells #[.int .i64 i, .int .i64 v, .int .i64 r, .int .i64 g] 23 (0, 0))) := heap_alloc_new _ _
  have HL3 := Lib.hid (box_old (o' := .cells #[.int .i64 i, .int .i64 v, .int .i64 r, .int .i64 g] 23) HL2.out)
  have HM3 := Lib.hid (box_old (o' := .cells #[.int .i64 i, .int .i64 v, .int .i64 r, .int .i64 g] 23) HM2.out)
  have HB3 : Hid (Below w.heap.size w (w2.alloc (.cells #[.int .i64 i, .int .i64 v, .int .i64 r, .int .i64 g] 23))) := HB2.out.alloc HB2.out.size _
  generalize w2.alloc (.cells #[.int .i64 i, .int .i64 v, .int .i64 r, .int .i64 g] 23) = w3 at *
  generalize w2.heap.size = gt at *
  clear HL2 HM2
  obtain ⟨l0, l1, l2, l3⟩ := four_cells HL3.out
  go_wp2_with fail
  refine (C2.out _).mono ?_
  rintro r w4 ⟨rfl, hb4⟩
  have HB4 : Hid (Below w.heap.size w w4) := HB3.out.trans (hb4.mono HB3.out.size)
  have HL4 := Lib.hid (box_next HL3.out hb4 (by rfl))
  have HM4 := Lib.hid (box_next HM3.out hb4 (by rfl))
  have HT4 := Lib.hid (box_next HT3.out hb4 (by rfl))
  clear hb4
  clear l0 l1 l2 l3
  go_upto_region 3 with fail
  have HU5 : Hid ((w4.alloc (.cells #[.int .i64 i, .int .i64 v, .int .i64 r, .int .i64 g] 23)).heap[w4.heap.size]? = some (.cells #[.int .i64 i, .int .i64 v, .int .i64 r, .int .i64 g] 23 (0, 0))) := heap_alloc_new _ _
  have HL5 := Lib.hid (box_old (o' := .cells #[.int .i64 i, .int .i64 v, .int .i64 r, .int .i64 g] 23) HL4.out)
  have HM5 := Lib.hid (box_old (o' := .cells #[.int .i64 i, .int .i64 v, .int .i64 r, .int .i64 g] 23) HM4.out)
  have HT5 := Lib.hid (box_old (o' := .cells #[.int .i64 i, .int .i64 v, .int .i64 r, .int .i64 g] 23) HT4.out)
  have HB5 : Hid (Below w.heap.size w (w4.alloc (.cells #[.int .i64 i, .int .i64 v, .int .i64 r, .int .i64 g] 23))) := HB4.out.alloc HB4.out.size _
  generalize w4.alloc (.cells #[.int .i64 i, .int .i64 v, .int .i64 r, .int .i64 g] 23) = w5 at *
  generalize w4.heap.size = gu at *
  clear HL4 HM4 HT4
  obtain ⟨l0, l1, l2, l3⟩ := four_cells HL5.out
  obtain ⟨m0, m1, m2, m3⟩ := four_cells HM5.out
  go_wp2_with fail
  refine (C3.out _).mono ?_
  rintro r w6 ⟨rfl, hb6⟩
  have HB6 : Hid (Below w.heap.size w w6) := HB5.out.trans (hb6.mono HB5.out.size)
  have HL6 := Lib.hid (box_next HL5.out hb6 (by rfl))
  have HM6 := Lib.hid (box_next HM5.out hb6 (by rfl))
  have HT6 := Lib.hid (box_next HT5.out hb6 (by rfl))
  have HU6 := Lib.hid (box_next HU5.out hb6 (by rfl))
  clear hb6
  clear l0 l1 l2 l3 m0 m1 m2 m3
  go_upto_region 4 with fail
  have HP7 : Hid ((w6.alloc (.cells #[.int .i64 i', .int .i64 v', .int .i64 r', .int .i64 g'] 23)).heap[w6.heap.size]? = some (.cells #[.int .i64 i', .int .i64 v', .int .i64 r', .int .i64 g'] 23 (0, 0))) := heap_alloc_new _ _
  have HL7 := Lib.hid (box_old (o' := .cells #[.int .i64 i', .int .i64 v', .int .i64 r', .int .i64 g'] 23) HL6.out)
  have HM7 := Lib.hid (box_old (o' := .cells #[.int .i64 i', .int .i64 v', .int .i64 r', .int .i64 g'] 23) HM6.out)
  have HT7 := Lib.hid (box_old (o' := .cells #[.int .i64 i', .int .i64 v', .int .i64 r', .int .i64 g'] 23) HT6.out)
  have HU7 := Lib.hid (box_old (o' := .cells #[.int .i64 i', .int .i64 v', .int .i64 r', .int .i64 g'] 23) HU6.out)
  have HB7 : Hid (Below w.heap.size w (w6.alloc (.cells #[.int .i64 i', .int .i64 v', .int .i64 r', .int .i64 g'] 23))) := HB6.out.alloc HB6.out.size _
  generalize w6.alloc (.cells #[.int .i64 i', .int .i64 v', .int .i64 r', .int .i64 g'] 23) = w7 at *
  generalize w6.heap.size = gp at *
  clear HL6 HM6 HT6 HU6
  obtain ⟨l0, l1, l2, l3⟩ := four_cells HL7.out
  obtain ⟨m0, m1, m2, m3⟩ := four_cells HM7.out
  go_wp2_with fail
  refine (C4.out _).mono ?_
  rintro r w8 ⟨rfl, hb8⟩
  have HB8 : Hid (Below w.heap.size w w8) := HB7.out.trans (hb8.mono HB7.out.size)
  have HL8 := Lib.hid (box_next HL7.out hb8 (by rfl))
  have HM8 := Lib.hid (box_next HM7.out hb8 (by rfl))
  have HT8 := Lib.hid (box_next HT7.out hb8 (by rfl))
  have HU8 := Lib.hid (box_next HU7.out hb8 (by rfl))
  have HP8 := Lib.hid (box_next HP7.out hb8 (by rfl))
  clear hb8
  clear l0 l1 l2 l3 m0 m1 m2 m3
  go_upto_region 5 with fail
  have HQ9 : Hid ((w8.alloc (.cells #[.int .i64 i', .int .i64 v', .int .i64 r', .int .i64 g'] 23)).heap[w8.heap.size]? = some (.cells #[.int .i64 i', .int .i64 v', .int .i64 r', .int .i64 g'] 23 (0, 0))) := heap_alloc_new _ _
  have HL9 := Lib.hid (box_old (o' := .cells #[.int .i64 i', .int .i64 v', .int .i64 r', .int .i64 g'] 23) HL8.out)
  have HM9 := Lib.hid (box_old (o' := .cells #[.int .i64 i', .int .i64 v', .int .i64 r', .int .i64 g'] 23) HM8.out)
  have HT9 := Lib.hid (box_old (o' := .cells #[.int .i64 i', .int .i64 v', .int .i64 r', .int .i64 g'] 23) HT8.out)
  have HU9 := Lib.hid (box_old (o' := .cells #[.int .i64 i', .int .i64 v', .int .i64 r', .int .i64 g'] 23) HU8.out)
  have HP9 := Lib.hid (box_old (o' := .cells #[.int .i64 i', .int .i64 v', .int .i64 r', .int .i64 g'] 23) HP8.out)
  have HB9 : Hid (Below w.heap.size w (w8.alloc (.cells #[.int .i64 i', .int .i64 v', .int .i64 r', .int .i64 g'] 23))) := HB8.out.alloc HB8.out.size _
  generalize w8.alloc (.cells #[.int .i64 i', .int .i64 v', .int .i64 r', .int .i64 g'] 23) = w9 at *
  generalize w8.heap.size = gq at *
  clear HL8 HM8 HT8 HU8 HP8
  go_wp2_with fail
  refine (plawake_any _).mono ?_
  rintro r w10 ⟨rfl, hb10⟩
  have HB10 : Hid (Below w.heap.size w w10) := HB9.out.trans (hb10.mono HB9.out.size)
  have HL10 := Lib.hid (box_next HL9.out hb10 (by rfl))
  have HM10 := Lib.hid (box_next HM9.out hb10 (by rfl))
  have HT10 := Lib.hid (box_next HT9.out hb10 (by rfl))
  have HU10 := Lib.hid (box_next HU9.out hb10 (by rfl))
  have HP10 := Lib.hid (box_next HP9.out hb10 (by rfl))
  have HQ10 := Lib.hid (box_next HQ9.out hb10 (by rfl))
  clear hb10
  obtain ⟨t0, t1, t2, t3⟩ := four_cells HT10.out
  obtain ⟨u0, u1, u2, u3⟩ := four_cells HU10.out
  obtain ⟨p0, p1, p2, p3⟩ := four_cells HP10.out
  obtain ⟨q0, q1, q2, q3⟩ := four_cells HQ10.out
  go_wp2_with fail
  go_ret
  exact ⟨rfl, HB10.out⟩
end Go.Proofs.Ytjlakkfbeijnbaa
