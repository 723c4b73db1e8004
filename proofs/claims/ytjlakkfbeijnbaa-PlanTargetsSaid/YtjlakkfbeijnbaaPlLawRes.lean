/-
  The walk of the law PlanResize.
-/
import Derived.Test.YtjlakkfbeijnbaaPlReturn
import Derived.Test.YtjlakkfbeijnbaaPlAwake
import Derived.OwnWalk
import Derived.Deep.DeepCutAuto
import Derived.Deep.CutBlock
import Derived.Deep.RegionHeld3
set_option maxRecDepth 100000
namespace Go.Proofs.Ytjlakkfbeijnbaa
open Go.RowKit
theorem seven_cells {w : World} {g : Nat} {a b c d e f h : Value} {t : TypeId} (k : w.heap[g]? = some (.cells #[a, b, c, d, e, f, h] t (0, 0))) :
    w.cell? ⟨g, 0, none⟩ = some a ∧ w.cell? ⟨g, 1, none⟩ = some b ∧ w.cell? ⟨g, 2, none⟩ = some c ∧ w.cell? ⟨g, 3, none⟩ = some d ∧ w.cell? ⟨g, 4, none⟩ = some e ∧ w.cell? ⟨g, 5, none⟩ = some f ∧ w.cell? ⟨g, 6, none⟩ = some h := by
  refine ⟨?_, ?_, ?_, ?_, ?_, ?_, ?_⟩ <;> (rw [cell_of_row _ _ _ _ _ _ k]; rfl)
theorem lay_self (W : World) (i v r g : Int) : (Op.equalIn 10000 23 (.agg #[.int .i64 i, .int .i64 v, .int .i64 r, .int .i64 g]) (.agg #[.int .i64 i, .int .i64 v, .int .i64 r, .int .i64 g])).run Try.prog W = .ok true W := by
  rw [lay_eq W, Sb.sameL_self]
set_option maxHeartbeats 4000000 in
theorem planresize_any (a b c d s rs reg : Int) (w : World) : Calls Try.prog 3 #[.agg #[.int .i64 a, .int .i64 b, .int .i64 c, .int .i64 d, .int .i64 s, .int .i64 rs, .int .i64 reg]] w fun r w' => r = .returned (.bool true) ∧ Below w.heap.size w w' := by
  have C1 := Lib.hid (fun W => plresize_any a b c d s rs reg W)
  have C2 := Lib.hid (fun W => refplresize_any a b c d s rs reg W)
  unfold MgIs at C1 C2
  generalize Mg.resize ⟨a, b, c, d⟩ s rs reg = x at *
  obtain ⟨⟨i, v, r, g⟩, e⟩ := x
  simp only at C1 C2
  have hq := fun W => lay_self W i v r g
  have hee : (e == e) = true := beq_self_eq_true e
  have HS0 := Lib.hid (sd_new w #[.int .i64 a, .int .i64 b, .int .i64 c, .int .i64 d, .int .i64 s, .int .i64 rs, .int .i64 reg] 25)
  go_enter Try.func3, Try.ntmps3
  go_upto_region 1 with fail
  generalize w.alloc (.cells #[.int .i64 a, .int .i64 b, .int .i64 c, .int .i64 d, .int .i64 s, .int .i64 rs, .int .i64 reg] 25) = w0 at *
  have HLT : Hid (w.heap.size < w0.heap.size) := HS0.out.lt
  go_cut [3, 4, 5, 6] (fun p q u v wx => p = .pointer (some ⟨w0.heap.size, 0, none⟩) ∧ q = .int .i64 s ∧ u = .int .i64 rs ∧ v = .int .i64 reg ∧ Hid (wx.heap[w0.heap.size]? = some (.cells #[.int .i64 a, .int .i64 b, .int .i64 c, .int .i64 d] 23 (0, 0)) ∧ Below w0.heap.size w0 wx))
  case first =>
    obtain ⟨c0, c1, c2, c3, c4, c5, c6⟩ := seven_cells HS0.out.1
    have n1 : w0.heap.size ≠ w.heap.size := by have := HLT.out; omega
    go_region_held3 (fun W => W.cell? ⟨w.heap.size, 0, none⟩ = some (.int .i64 a) ∧ W.cell? ⟨w.heap.size, 1, none⟩ = some (.int .i64 b) ∧ W.cell? ⟨w.heap.size, 2, none⟩ = some (.int .i64 c) ∧ W.cell? ⟨w.heap.size, 3, none⟩ = some (.int .i64 d) ∧ W.cell? ⟨w.heap.size, 4, none⟩ = some (.int .i64 s) ∧ W.cell? ⟨w.heap.size, 5, none⟩ = some (.int .i64 rs) ∧ W.cell? ⟨w.heap.size, 6, none⟩ = some (.int .i64 reg))
      (first
        | go_keep)
      (first
        | fail)
    all_goals
      (try go_wp2_with fail)
      go_meet
      exact ⟨rfl, rfl, rfl, rfl, heap_alloc_new w0 _, ((Below.refl _ w0).alloc (Nat.le_refl _) _).drew⟩
  case rest =>
    obtain ⟨rfl, rfl, rfl, rfl, HC⟩ := hcut
    have HL1 : Hid (wc.heap[w0.heap.size]? = some (.cells #[.int .i64 a, .int .i64 b, .int .i64 c, .int .i64 d] 23 (0, 0))) := HC.out.1
    have HB1 : Hid (Below w.heap.size w wc) := HS0.out.2.trans (HC.out.2.mono HS0.out.2.size)
    clear HC HS0
    generalize wc = w1 at *
    generalize w0.heap.size = gl at *
    obtain ⟨l0, l1, l2, l3⟩ := four_cells HL1.out
    go_wp2_with fail
    refine (C1.out _).mono ?_
    rintro r w2 ⟨rfl, hb2⟩
    have HB2 : Hid (Below w.heap.size w w2) := HB1.out.trans (hb2.mono HB1.out.size)
    have HL2 := Lib.hid (box_next HL1.out hb2 (by rfl))
    clear hb2
    clear l0 l1 l2 l3
    go_upto_region 3 with fail
    have HT3 : Hid ((w2.alloc (.cells #[.int .i64 i, .int .i64 v, .int .i64 r, .int .i64 g] 23)).heap[w2.heap.size]? = some (.cells #[.int .i64 i, .int .i64 v, .int .i64 r, .int .i64 g] 23 (0, 0))) := heap_alloc_new _ _
    have HL3 := Lib.hid (box_old (o' := .cells #[.int .i64 i, .int .i64 v, .int .i64 r, .int .i64 g] 23) HL2.out)
    have HB3 : Hid (Below w.heap.size w (w2.alloc (.cells #[.int .i64 i, .int .i64 v, .int .i64 r, .int .i64 g] 23))) := HB2.out.alloc HB2.out.size _
    generalize w2.alloc (.cells #[.int .i64 i, .int .i64 v, .int .i64 r, .int .i64 g] 23) = w3 at *
    generalize w2.heap.size = gt at *
    clear HL2
    obtain ⟨l0, l1, l2, l3⟩ := four_cells HL3.out
    go_wp2_with fail
    refine (C2.out _).mono ?_
    rintro r w4 ⟨rfl, hb4⟩
    have HB4 : Hid (Below w.heap.size w w4) := HB3.out.trans (hb4.mono HB3.out.size)
    have HL4 := Lib.hid (box_next HL3.out hb4 (by rfl))
    have HT4 := Lib.hid (box_next HT3.out hb4 (by rfl))
    clear hb4
    clear l0 l1 l2 l3
    go_upto_region 4 with fail
    have HU5 : Hid ((w4.alloc (.cells #[.int .i64 i, .int .i64 v, .int .i64 r, .int .i64 g] 23)).heap[w4.heap.size]? = some (.cells #[.int .i64 i, .int .i64 v, .int .i64 r, .int .i64 g] 23 (0, 0))) := heap_alloc_new _ _
    have HL5 := Lib.hid (box_old (o' := .cells #[.int .i64 i, .int .i64 v, .int .i64 r, .int .i64 g] 23) HL4.out)
    have HT5 := Lib.hid (box_old (o' := .cells #[.int .i64 i, .int .i64 v, .int .i64 r, .int .i64 g] 23) HT4.out)
    have HB5 : Hid (Below w.heap.size w (w4.alloc (.cells #[.int .i64 i, .int .i64 v, .int .i64 r, .int .i64 g] 23))) := HB4.out.alloc HB4.out.size _
    generalize w4.alloc (.cells #[.int .i64 i, .int .i64 v, .int .i64 r, .int .i64 g] 23) = w5 at *
    generalize w4.heap.size = gu at *
    clear HL4 HT4
    go_wp2_with fail
    refine (plawake_any _).mono ?_
    rintro r w6 ⟨rfl, hb6⟩
    have HB6 : Hid (Below w.heap.size w w6) := HB5.out.trans (hb6.mono HB5.out.size)
    have HL6 := Lib.hid (box_next HL5.out hb6 (by rfl))
    have HT6 := Lib.hid (box_next HT5.out hb6 (by rfl))
    have HU6 := Lib.hid (box_next HU5.out hb6 (by rfl))
    clear hb6
    obtain ⟨t0, t1, t2, t3⟩ := four_cells HT6.out
    obtain ⟨u0, u1, u2, u3⟩ := four_cells HU6.out
    go_wp2_with fail
    go_ret
    exact ⟨rfl, HB6.out⟩
end Go.Proofs.Ytjlakkfbeijnbaa
