/-
  The walk of the law GeometryOverlap.
-/
import Derived.Test.YtcjeobjklbmgiaaGmAwake
import Derived.Test.YtcjeobjklbmgiaaGmRefFree
import Derived.BigQuiet
import Derived.IntWalk
import Derived.Deep.DeepCutAuto
import Derived.Deep.CutBlock
import Derived.Deep.RegionHeld3
set_option maxRecDepth 100000
namespace Go.Proofs.Ytcjeobjklbmgiaa
open Go.RowKit
theorem two_made {w w0 : World} {cs cs' : Array Value} {t t' : TypeId} (h : Below w.heap.size w w0) :
    TwoAt w (.cells cs t (0, 0)) (.cells cs' t' (0, 0)) w0.heap.size (w0.heap.size + 1) ((w0.alloc (.cells cs t)).alloc (.cells cs' t')).drew ∧ TwoAt w (.cells cs t (0, 0)) (.cells cs' t' (0, 0)) (w0.heap.size + 1) w0.heap.size ((w0.alloc (.cells cs' t')).alloc (.cells cs t)).drew :=
  ⟨⟨(sd2_new w0 cs cs' t t').1, (sd2_new w0 cs cs' t t').2.1, below_drawn (h.trans ((sd2_new w0 cs cs' t t').2.2.mono h.size)) 1⟩, ⟨(sd2_new w0 cs' cs t' t).2.1, (sd2_new w0 cs' cs t' t).1, below_drawn (h.trans ((sd2_new w0 cs' cs t' t).2.2.mono h.size)) 1⟩⟩
theorem secs_len (a b c d s : Int) (W : World) : Calls Try.prog 8 #[.agg #[.int .i64 a, .int .i64 b, .int .i64 c, .int .i64 d], .int .i64 s] W fun r w' => ∃ A n q, r = .returned (.slice A n q) ∧ decide ((0 : Int) < (n : Int)) = decide (Gm.has ⟨a, b, c, d⟩ s) ∧ decide (0 < n) = decide (Gm.has ⟨a, b, c, d⟩ s) ∧ Below W.heap.size W w' := by
  by_cases hb : Gm.has ⟨a, b, c, d⟩ s
  · have f1 := Gm.form_nums hb.1
    simp only at f1
    refine (refsecs_has a b c d s c.toNat (by omega) W hb).mono ?_
    rintro r w' ⟨g, cc, rfl, hs, -, h⟩
    exact ⟨_, _, _, rfl, by rw [decide_eq_true hb]; exact decide_eq_true (by omega), by rw [decide_eq_true hb]; exact decide_eq_true (by omega), h⟩
  · refine (refsecs_no a b c d s W hb).mono ?_
    rintro r w' ⟨rfl, h⟩
    exact ⟨_, _, _, rfl, by rw [decide_eq_false hb]; rfl, by rw [decide_eq_false hb]; rfl, h⟩
set_option maxHeartbeats 4000000 in
theorem geometryoverlap_any (a0 a1 a2 a3 b0 b1 b2 b3 i k : Int) (w : World) : Calls Try.prog 4 #[.agg #[.int .i64 a0, .int .i64 a1, .int .i64 a2, .int .i64 a3, .int .i64 b0, .int .i64 b1, .int .i64 b2, .int .i64 b3, .int .i64 i, .int .i64 k]] w fun r w' => r = .returned (.bool true) ∧ Below w.heap.size w w' := by
  have C1 := Lib.hid (fun W => gmover_any a0 a1 a2 a3 i b0 b1 b2 b3 k W)
  have C2 := Lib.hid (fun W => gmover_any a0 a1 a2 a3 i a0 a1 a2 a3 k W)
  have C3 := Lib.hid (fun W => secs_len a0 a1 a2 a3 i W)
  have C4 := Lib.hid (fun W => secs_len a0 a1 a2 a3 k W)
  have C5 := Lib.hid (fun W => refgmover_any a0 a1 a2 a3 i b0 b1 b2 b3 k W)
  have C6 := Lib.hid (fun W => gmover_any b0 b1 b2 b3 k a0 a1 a2 a3 i W)
  rw [decide_eq_decide.2 (Gm.over_comm ⟨b0, b1, b2, b3⟩ k ⟨a0, a1, a2, a3⟩ i)] at C6
  have HU : Hid (decide (Gm.over ⟨a0, a1, a2, a3⟩ i ⟨a0, a1, a2, a3⟩ k) = (decide (Gm.has ⟨a0, a1, a2, a3⟩ i) && (decide (Gm.has ⟨a0, a1, a2, a3⟩ k) && (i == k)))) := by
    show _ = _
    rw [decide_eq_decide.2 (Gm.over_self ⟨a0, a1, a2, a3⟩ i k), Bool.beq_eq_decide_eq, ← Bool.decide_and, ← Bool.decide_and]
  rw [HU.out] at C2
  clear HU
  generalize decide (Gm.over ⟨a0, a1, a2, a3⟩ i ⟨b0, b1, b2, b3⟩ k) = t at *
  generalize decide (Gm.has ⟨a0, a1, a2, a3⟩ i) = t0 at *
  generalize decide (Gm.has ⟨a0, a1, a2, a3⟩ k) = t1 at *
  have htt : (t == t) = true := by simp
  have HS0 := Lib.hid (sd_new w #[.int .i64 a0, .int .i64 a1, .int .i64 a2, .int .i64 a3, .int .i64 b0, .int .i64 b1, .int .i64 b2, .int .i64 b3, .int .i64 i, .int .i64 k] 33)
  go_enter Try.func4, Try.ntmps4
  go_upto_region 1 with fail
  generalize w.alloc (.cells #[.int .i64 a0, .int .i64 a1, .int .i64 a2, .int .i64 a3, .int .i64 b0, .int .i64 b1, .int .i64 b2, .int .i64 b3, .int .i64 i, .int .i64 k] 33) = w0 at *
  have HLT : Hid (w.heap.size < w0.heap.size) := HS0.out.lt
  have HM1 := Lib.hid (two_made (cs := #[.int .i64 a0, .int .i64 a1, .int .i64 a2, .int .i64 a3]) (cs' := #[.int .i64 b0, .int .i64 b1, .int .i64 b2, .int .i64 b3]) (t := 23) (t' := 23) HS0.out.2)
  go_cut [3, 4, 5, 6] (fun p q u v wx => ∃ g1 g2, p = .pointer (some ⟨g1, 0, none⟩) ∧ q = .pointer (some ⟨g2, 0, none⟩) ∧ u = .int .i64 i ∧ v = .int .i64 k ∧ Hid (TwoAt w (.cells #[.int .i64 a0, .int .i64 a1, .int .i64 a2, .int .i64 a3] 23 (0, 0)) (.cells #[.int .i64 b0, .int .i64 b1, .int .i64 b2, .int .i64 b3] 23 (0, 0)) g1 g2 wx))
  case first =>
    obtain ⟨c0, c1, c2, c3, c4, c5, c6, c7, c8, c9⟩ := ten_cells HS0.out.1
    have n1 : w0.heap.size ≠ w.heap.size := by have := HLT.out; omega
    have n2 : w0.heap.size + 1 ≠ w.heap.size := by have := HLT.out; omega
    go_region_held3 (fun W => W.cell? ⟨w.heap.size, 0, none⟩ = some (.int .i64 a0) ∧ W.cell? ⟨w.heap.size, 1, none⟩ = some (.int .i64 a1) ∧ W.cell? ⟨w.heap.size, 2, none⟩ = some (.int .i64 a2) ∧ W.cell? ⟨w.heap.size, 3, none⟩ = some (.int .i64 a3) ∧ W.cell? ⟨w.heap.size, 4, none⟩ = some (.int .i64 b0) ∧ W.cell? ⟨w.heap.size, 5, none⟩ = some (.int .i64 b1) ∧ W.cell? ⟨w.heap.size, 6, none⟩ = some (.int .i64 b2) ∧ W.cell? ⟨w.heap.size, 7, none⟩ = some (.int .i64 b3) ∧ W.cell? ⟨w.heap.size, 8, none⟩ = some (.int .i64 i) ∧ W.cell? ⟨w.heap.size, 9, none⟩ = some (.int .i64 k))
      (first
        | go_keep)
      (first
        | fail)
    all_goals
      (try go_wp2_with fail)
      go_meet
      first
        | exact ⟨_, _, rfl, rfl, rfl, rfl, HM1.out.1⟩
        | exact ⟨_, _, rfl, rfl, rfl, rfl, HM1.out.2⟩
  case rest =>
    obtain ⟨g1, g2, rfl, rfl, rfl, rfl, HT1⟩ := hcut
    clear HS0 HLT HM1
    generalize wc = w1 at *
    obtain ⟨z0, z1, z2, z3⟩ := four_cells HT1.out.1
    obtain ⟨y0, y1, y2, y3⟩ := four_cells HT1.out.2.1
    rcases three_ways t0 t1 with rfl | ⟨rfl, rfl⟩ | ⟨rfl, rfl⟩
    · go_wp2_with fail
      refine (C1.out _).mono ?_
      rintro r w2 ⟨rfl, hb2⟩
      have HT2 := Lib.hid (two_next HT1.out hb2)
      clear hb2 z0 z1 z2 z3 y0 y1 y2 y3
      obtain ⟨z0, z1, z2, z3⟩ := four_cells HT2.out.1
      obtain ⟨y0, y1, y2, y3⟩ := four_cells HT2.out.2.1
      go_wp2_with fail
      refine (C2.out _).mono ?_
      rintro r w3 ⟨rfl, hb3⟩
      have HT3 := Lib.hid (two_next HT2.out hb3)
      clear hb3 z0 z1 z2 z3 y0 y1 y2 y3
      obtain ⟨z0, z1, z2, z3⟩ := four_cells HT3.out.1
      obtain ⟨y0, y1, y2, y3⟩ := four_cells HT3.out.2.1
      go_wp2_with fail
      refine (C3.out _).mono ?_
      rintro r w4 ⟨A4, n4, c4, rfl, hd4, he4, hb4⟩
      have HT4 := Lib.hid (two_next HT3.out hb4)
      clear hb4 z0 z1 z2 z3 y0 y1 y2 y3
      obtain ⟨z0, z1, z2, z3⟩ := four_cells HT4.out.1
      obtain ⟨y0, y1, y2, y3⟩ := four_cells HT4.out.2.1
      go_wp2_with fail
      refine ((fun W => gmawake_any W) _).mono ?_
      rintro r w5 ⟨rfl, hb5⟩
      have HT5 := Lib.hid (two_next HT4.out hb5)
      clear hb5 z0 z1 z2 z3 y0 y1 y2 y3
      obtain ⟨z0, z1, z2, z3⟩ := four_cells HT5.out.1
      obtain ⟨y0, y1, y2, y3⟩ := four_cells HT5.out.2.1
      go_wp2_with fail
      refine (C5.out _).mono ?_
      rintro r w6 ⟨rfl, hb6⟩
      have HT6 := Lib.hid (two_next HT5.out hb6)
      clear hb6 z0 z1 z2 z3 y0 y1 y2 y3
      obtain ⟨z0, z1, z2, z3⟩ := four_cells HT6.out.1
      obtain ⟨y0, y1, y2, y3⟩ := four_cells HT6.out.2.1
      go_wp2_with fail
      refine (C6.out _).mono ?_
      rintro r w7 ⟨rfl, hb7⟩
      have HT7 := Lib.hid (two_next HT6.out hb7)
      clear hb7 z0 z1 z2 z3 y0 y1 y2 y3
      obtain ⟨z0, z1, z2, z3⟩ := four_cells HT7.out.1
      obtain ⟨y0, y1, y2, y3⟩ := four_cells HT7.out.2.1
      go_wp2_with fail
      go_ret
      exact ⟨ret_bool (by simp), HT7.out.2.2⟩
    · go_wp2_with fail
      refine (C1.out _).mono ?_
      rintro r w2 ⟨rfl, hb2⟩
      have HT2 := Lib.hid (two_next HT1.out hb2)
      clear hb2 z0 z1 z2 z3 y0 y1 y2 y3
      obtain ⟨z0, z1, z2, z3⟩ := four_cells HT2.out.1
      obtain ⟨y0, y1, y2, y3⟩ := four_cells HT2.out.2.1
      go_wp2_with fail
      refine (C2.out _).mono ?_
      rintro r w3 ⟨rfl, hb3⟩
      have HT3 := Lib.hid (two_next HT2.out hb3)
      clear hb3 z0 z1 z2 z3 y0 y1 y2 y3
      obtain ⟨z0, z1, z2, z3⟩ := four_cells HT3.out.1
      obtain ⟨y0, y1, y2, y3⟩ := four_cells HT3.out.2.1
      go_wp2_with fail
      refine (C3.out _).mono ?_
      rintro r w4 ⟨A4, n4, c4, rfl, hd4, he4, hb4⟩
      have HT4 := Lib.hid (two_next HT3.out hb4)
      clear hb4 z0 z1 z2 z3 y0 y1 y2 y3
      obtain ⟨z0, z1, z2, z3⟩ := four_cells HT4.out.1
      obtain ⟨y0, y1, y2, y3⟩ := four_cells HT4.out.2.1
      go_wp2_with fail
      refine (C4.out _).mono ?_
      rintro r w5 ⟨A5, n5, c5, rfl, hd5, he5, hb5⟩
      have HT5 := Lib.hid (two_next HT4.out hb5)
      clear hb5 z0 z1 z2 z3 y0 y1 y2 y3
      obtain ⟨z0, z1, z2, z3⟩ := four_cells HT5.out.1
      obtain ⟨y0, y1, y2, y3⟩ := four_cells HT5.out.2.1
      go_wp2_with fail
      refine ((fun W => gmawake_any W) _).mono ?_
      rintro r w6 ⟨rfl, hb6⟩
      have HT6 := Lib.hid (two_next HT5.out hb6)
      clear hb6 z0 z1 z2 z3 y0 y1 y2 y3
      obtain ⟨z0, z1, z2, z3⟩ := four_cells HT6.out.1
      obtain ⟨y0, y1, y2, y3⟩ := four_cells HT6.out.2.1
      go_wp2_with fail
      refine (C5.out _).mono ?_
      rintro r w7 ⟨rfl, hb7⟩
      have HT7 := Lib.hid (two_next HT6.out hb7)
      clear hb7 z0 z1 z2 z3 y0 y1 y2 y3
      obtain ⟨z0, z1, z2, z3⟩ := four_cells HT7.out.1
      obtain ⟨y0, y1, y2, y3⟩ := four_cells HT7.out.2.1
      go_wp2_with fail
      refine (C6.out _).mono ?_
      rintro r w8 ⟨rfl, hb8⟩
      have HT8 := Lib.hid (two_next HT7.out hb8)
      clear hb8 z0 z1 z2 z3 y0 y1 y2 y3
      obtain ⟨z0, z1, z2, z3⟩ := four_cells HT8.out.1
      obtain ⟨y0, y1, y2, y3⟩ := four_cells HT8.out.2.1
      go_wp2_with fail
      go_ret
      exact ⟨ret_bool (by simp), HT8.out.2.2⟩
    · go_wp2_with fail
      refine (C1.out _).mono ?_
      rintro r w2 ⟨rfl, hb2⟩
      have HT2 := Lib.hid (two_next HT1.out hb2)
      clear hb2 z0 z1 z2 z3 y0 y1 y2 y3
      obtain ⟨z0, z1, z2, z3⟩ := four_cells HT2.out.1
      obtain ⟨y0, y1, y2, y3⟩ := four_cells HT2.out.2.1
      go_wp2_with fail
      refine (C2.out _).mono ?_
      rintro r w3 ⟨rfl, hb3⟩
      have HT3 := Lib.hid (two_next HT2.out hb3)
      clear hb3 z0 z1 z2 z3 y0 y1 y2 y3
      obtain ⟨z0, z1, z2, z3⟩ := four_cells HT3.out.1
      obtain ⟨y0, y1, y2, y3⟩ := four_cells HT3.out.2.1
      go_wp2_with fail
      refine (C3.out _).mono ?_
      rintro r w4 ⟨A4, n4, c4, rfl, hd4, he4, hb4⟩
      have HT4 := Lib.hid (two_next HT3.out hb4)
      clear hb4 z0 z1 z2 z3 y0 y1 y2 y3
      obtain ⟨z0, z1, z2, z3⟩ := four_cells HT4.out.1
      obtain ⟨y0, y1, y2, y3⟩ := four_cells HT4.out.2.1
      go_wp2_with fail
      refine (C4.out _).mono ?_
      rintro r w5 ⟨A5, n5, c5, rfl, hd5, he5, hb5⟩
      have HT5 := Lib.hid (two_next HT4.out hb5)
      clear hb5 z0 z1 z2 z3 y0 y1 y2 y3
      obtain ⟨z0, z1, z2, z3⟩ := four_cells HT5.out.1
      obtain ⟨y0, y1, y2, y3⟩ := four_cells HT5.out.2.1
      go_wp2_with fail
      refine ((fun W => gmawake_any W) _).mono ?_
      rintro r w6 ⟨rfl, hb6⟩
      have HT6 := Lib.hid (two_next HT5.out hb6)
      clear hb6 z0 z1 z2 z3 y0 y1 y2 y3
      obtain ⟨z0, z1, z2, z3⟩ := four_cells HT6.out.1
      obtain ⟨y0, y1, y2, y3⟩ := four_cells HT6.out.2.1
      go_wp2_with fail
      refine (C5.out _).mono ?_
      rintro r w7 ⟨rfl, hb7⟩
      have HT7 := Lib.hid (two_next HT6.out hb7)
      clear hb7 z0 z1 z2 z3 y0 y1 y2 y3
      obtain ⟨z0, z1, z2, z3⟩ := four_cells HT7.out.1
      obtain ⟨y0, y1, y2, y3⟩ := four_cells HT7.out.2.1
      go_wp2_with fail
      refine (C6.out _).mono ?_
      rintro r w8 ⟨rfl, hb8⟩
      have HT8 := Lib.hid (two_next HT7.out hb8)
      clear hb8 z0 z1 z2 z3 y0 y1 y2 y3
      obtain ⟨z0, z1, z2, z3⟩ := four_cells HT8.out.1
      obtain ⟨y0, y1, y2, y3⟩ := four_cells HT8.out.2.1
      go_wp2_with fail
      go_ret
      exact ⟨ret_bool (by simp), HT8.out.2.2⟩
end Go.Proofs.Ytcjeobjklbmgiaa
