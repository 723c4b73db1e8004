/-
  The walks of Header and of the reference's May, and the law RegionMay.
-/
import Derived.Test.YtepbdicglgjcjaaDoorFoldM
set_option maxRecDepth 100000
namespace Go.Proofs.YtepbdicglgjcjaaDoor
open Go.RowKit
theorem sd_stored6 {w w1 : World} {r : Nat} {a b c d e f a' b' c' d' e' f' : Value} {t : TypeId} (h : Sd w r (.cells #[a, b, c, d, e, f] t (0, 0)) w1) (hr : w.heap.size ≤ r) : Sd w r (.cells #[a', b', c', d', e', f'] t (0, 0)) ((((((w1.setCell ⟨r, 0, none⟩ a').setCell ⟨r, 1, none⟩ b').setCell ⟨r, 2, none⟩ c').setCell ⟨r, 3, none⟩ d').setCell ⟨r, 4, none⟩ e').setCell ⟨r, 5, none⟩ f') :=
  ⟨stored6 h.1, h.2.grown (stored6_grown w1 r a' b' c' d' e' f') h.2.size (fun g e => by injection e with e; omega)⟩
theorem rghead_nil (w : World) : Calls Tryd.prog 38 #[.pointer none] w fun e w' => e = .returned (.agg #[.int .i64 0, .int .i64 0, .int .i64 0, .int .i64 0, .int .i64 0, .int .i64 0]) ∧ Below w.heap.size w w' := by
  have HS0 := Lib.hid (sd_new w #[.int .i64 0, .int .i64 0, .int .i64 0, .int .i64 0, .int .i64 0, .int .i64 0] 60)
  go_enter Tryd.func38, Tryd.ntmps38
  go_upto_region 1 with fail
  generalize w.alloc (.cells #[.int .i64 0, .int .i64 0, .int .i64 0, .int .i64 0, .int .i64 0, .int .i64 0] 60) = w0 at *
  obtain ⟨z0, z1, z2, z3, z4, z5⟩ := six_cells HS0.out.1
  obtain ⟨f0, f1, f2, f3, f4, f5⟩ := six_frozen HS0.out.1
  go_wp2
  (try simp only [Exit.inBlock, Exit.then])
  refine bodyPost_ret (results_cell_row rfl _ _ w.heap.size _ _ (0, 0) _ rfl (stored6 HS0.out.1) Tryd.underlying60 rfl (by kernel_rfl)) rfl ?_
  exact ⟨rfl, (sd_stored6 HS0.out (Nat.le_refl _)).2⟩
theorem rghead_any {W w : World} {c : Nat → Nat} {r gd cd md n : Nat} {fs : Flash} {a b cc d hv slot lay seq tail now : Int} {gp : Nat} {st : List Nat} {k : Nat} (hg : Hid (StG W w c r gd cd md n fs a b cc d hv slot lay seq tail now gp st k)) :
    Calls Tryd.prog 38 #[.pointer (some ⟨r, 0, none⟩)] w fun e w' => e = .returned (.agg #[.int .i64 hv, .int .i64 slot, .int .i64 lay, .int .i64 seq, .int .i64 tail, .int .i64 now]) ∧ Below w.heap.size w w' := by
  have HS0 := Lib.hid (sd_new w #[.int .i64 0, .int .i64 0, .int .i64 0, .int .i64 0, .int .i64 0, .int .i64 0] 60)
  have HG0 := Lib.hid (hg.out.new HS0.out.2).box
  go_enter Tryd.func38, Tryd.ntmps38
  go_upto_region 1 with fail
  generalize w.alloc (.cells #[.int .i64 0, .int .i64 0, .int .i64 0, .int .i64 0, .int .i64 0, .int .i64 0] 60) = w0 at *
  obtain ⟨z0, z1, z2, z3, z4, z5⟩ := six_cells HS0.out.1
  obtain ⟨f0, f1, f2, f3, f4, f5⟩ := six_frozen HS0.out.1
  obtain ⟨y0, y1, y2, y3, y4, y5, y6, y7⟩ := rg8 HG0.out
  go_wp2
  (try simp only [Exit.inBlock, Exit.then])
  refine bodyPost_ret (results_cell_row rfl _ _ w.heap.size _ _ (0, 0) _ rfl (stored6 HS0.out.1) Tryd.underlying60 rfl (by kernel_rfl)) rfl ?_
  exact ⟨rfl, (sd_stored6 HS0.out (Nat.le_refl _)).2⟩
theorem may_ways (L : Sb.L) (h : Hd.H) (u v : Bool) (hu : decide (Sb.form L) = u) (hv : decide (Hd.valid h) = v) :
    (Rg.may L h = 4 ∧ (u = false ∨ (u = true ∧ (v = false ∨ (v = true ∧ ((h.ver != L.ver) = true ∨ ((h.ver != L.ver) = false ∧ (h.lay != L.id) = true))))))) ∨
    (u = true ∧ v = true ∧ (h.ver != L.ver) = false ∧ (h.lay != L.id) = false ∧ ((Rg.may L h = 2 ∧ decide (L.reg ≤ h.slot) = true) ∨ (Rg.may L h = 0 ∧ decide (L.reg ≤ h.slot) = false))) := by
  rcases open_ways L h v hv with ⟨hm, rfl | ⟨rfl, e1 | ⟨e1, e2⟩⟩⟩ | ⟨hm, hval, rfl, e1, e2⟩
  · cases u
    · exact .inl ⟨hm, .inl rfl⟩
    · exact .inl ⟨hm, .inr ⟨rfl, .inl rfl⟩⟩
  · cases u
    · exact .inl ⟨hm, .inl rfl⟩
    · exact .inl ⟨hm, .inr ⟨rfl, .inr ⟨rfl, .inl e1⟩⟩⟩
  · cases u
    · exact .inl ⟨hm, .inl rfl⟩
    · exact .inl ⟨hm, .inr ⟨rfl, .inr ⟨rfl, .inr ⟨e1, e2⟩⟩⟩⟩
  · by_cases hf : Sb.form L
    · obtain rfl : true = u := by rw [← hu, decide_eq_true hf]
      refine .inr ⟨rfl, rfl, e1, e2, ?_⟩
      rw [hm]
      have h1 := hval.2.1
      have h2 := hval.2.2.2.1
      by_cases hs : L.reg ≤ h.slot
      · exact .inl ⟨by unfold Pk.may; rw [if_pos hf, if_neg fun h => by have := h.1.2.2; omega], decide_eq_true hs⟩
      · exact .inr ⟨Pk.may_zero ⟨⟨hf, h1.1, by omega⟩, h2⟩, decide_eq_false hs⟩
    · obtain rfl : false = u := by rw [← hu, decide_eq_false hf]
      exact .inl ⟨by rw [hm]; unfold Pk.may; rw [if_neg hf], .inl rfl⟩
set_option maxHeartbeats 2000000 in
theorem refrgmay_any (a b c d hv slot lay seq tail now : Int) (w : World) :
    Calls Tryd.prog 42 #[.agg #[.int .i64 a, .int .i64 b, .int .i64 c, .int .i64 d], .agg #[.int .i64 hv, .int .i64 slot, .int .i64 lay, .int .i64 seq, .int .i64 tail, .int .i64 now]] w fun e w' => e = .returned (.int .i64 (Rg.may ⟨a, b, c, d⟩ ⟨hv, slot, lay, seq, tail, now⟩)) ∧ Below w.heap.size w w' := by
  have HX0 := Lib.hid (OpBx.made (a := a) (b := b) (c := c) (d := d) (hv := hv) (slot := slot) (lay := lay) (seq := seq) (tail := tail) (now := now) w)
  have HB0 : Hid (Below w.heap.size w ((w.alloc (.cells #[.int .i64 a, .int .i64 b, .int .i64 c, .int .i64 d] 23)).alloc (.cells #[.int .i64 hv, .int .i64 slot, .int .i64 lay, .int .i64 seq, .int .i64 tail, .int .i64 now] 60))) := ((Below.refl _ w).alloc (Nat.le_refl _) _).alloc (by simp) _
  have HV := Lib.hid (fun W => refhdvalid_any hv slot lay seq tail now W)
  have HF := Lib.hid (fun W => refsbform_any a b c d W)
  obtain ⟨u, huu⟩ : ∃ u, decide (Sb.form ⟨a, b, c, d⟩) = u := ⟨_, rfl⟩
  obtain ⟨v, hvv⟩ : ∃ v, decide (Hd.valid ⟨hv, slot, lay, seq, tail, now⟩) = v := ⟨_, rfl⟩
  rw [hvv] at HV
  rw [huu] at HF
  have hw := may_ways ⟨a, b, c, d⟩ ⟨hv, slot, lay, seq, tail, now⟩ u v huu hvv
  clear huu hvv
  simp only at hw
  generalize Rg.may ⟨a, b, c, d⟩ ⟨hv, slot, lay, seq, tail, now⟩ = m at *
  rcases hw with ⟨rfl, rfl | ⟨rfl, rfl | ⟨rfl, e1 | ⟨e1, e2⟩⟩⟩⟩ | ⟨rfl, rfl, e1, e2, ⟨rfl, e3⟩ | ⟨rfl, e3⟩⟩
  all_goals
    go_enter Tryd.func42, Tryd.ntmps42
    go_upto_region 1 with fail
    generalize (w.alloc (.cells #[.int .i64 a, .int .i64 b, .int .i64 c, .int .i64 d] 23)).alloc (.cells #[.int .i64 hv, .int .i64 slot, .int .i64 lay, .int .i64 seq, .int .i64 tail, .int .i64 now] 60) = w0 at *
    obtain ⟨⟨z0, z1, z2, z3⟩, y0, y1, y2, y3, y4, y5⟩ := HX0.out.cells
    go_wp2_with fail
    refine (HF.out _).mono ?_
    rintro e w1 ⟨rfl, hb1⟩
    have HX1 := Lib.hid (HX0.out.next hb1)
    have HB1 := Lib.hid (HB0.out.trans (hb1.mono HB0.out.size))
    clear hb1 z0 z1 z2 z3 y0 y1 y2 y3 y4 y5
    obtain ⟨⟨z0, z1, z2, z3⟩, y0, y1, y2, y3, y4, y5⟩ := HX1.out.cells
    first
      | (go_wp2_with fail
         refine (HV.out _).mono ?_
         rintro e w2 ⟨rfl, hb2⟩
         have HX2 := Lib.hid (HX1.out.next hb2)
         have HB2 := Lib.hid (HB1.out.trans (hb2.mono HB1.out.size))
         clear hb2 z0 z1 z2 z3 y0 y1 y2 y3 y4 y5
         obtain ⟨⟨z0, z1, z2, z3⟩, y0, y1, y2, y3, y4, y5⟩ := HX2.out.cells
         go_wp2
         go_ret
         exact ⟨rfl, HB2.out⟩)
      | (go_wp2
         go_ret
         exact ⟨rfl, HB1.out⟩)
theorem begun_out {fs : Flash} {n : Nat} {x : Int} {b : List Nat} (h : Plain fs) (hx : (n : Int) ≤ x) : Rg.begun fs n x b = (fs, 2) := by
  have h1 : ¬ fs.dead = true := by rw [h.dead]; simp
  have e1 : fs.writeErr n x b = 2 := by unfold Flash.writeErr; rw [if_neg h1, if_pos (.inr hx)]
  have e2 : fs.write n x b = fs := by unfold Flash.write; rw [if_pos (.inr (.inr (.inl hx)))]
  unfold Rg.begun Rg.syncFs Rg.syncErr
  simp only
  rw [e1, e2, if_neg (by decide), if_neg (by decide)]
set_option maxHeartbeats 4000000 in
theorem regionmay_any (a b c d hv slot lay seq tail now : Int) (w : World) (ht : Hid (TabW w)) (hz : 0 < w.heap.size) :
    Calls Tryd.prog 6 #[.agg #[.int .i64 a, .int .i64 b, .int .i64 c, .int .i64 d], .agg #[.int .i64 hv, .int .i64 slot, .int .i64 lay, .int .i64 seq, .int .i64 tail, .int .i64 now]] w fun e w' => e = .returned (.bool true) ∧ Below w.heap.size w w' := by
  have HX0 := Lib.hid (OpBx.made (a := a) (b := b) (c := c) (d := d) (hv := hv) (slot := slot) (lay := lay) (seq := seq) (tail := tail) (now := now) w)
  have HB0 : Hid (Below w.heap.size w ((w.alloc (.cells #[.int .i64 a, .int .i64 b, .int .i64 c, .int .i64 d] 23)).alloc (.cells #[.int .i64 hv, .int .i64 slot, .int .i64 lay, .int .i64 seq, .int .i64 tail, .int .i64 now] 60))) := ((Below.refl _ w).alloc (Nat.le_refl _) _).alloc (by simp) _
  have kq : ∀ W : World, (Op.equalIn 10000 60 (.agg #[.int .i64 0, .int .i64 0, .int .i64 0, .int .i64 0, .int .i64 0, .int .i64 0]) (.agg #[.int .i64 0, .int .i64 0, .int .i64 0, .int .i64 0, .int .i64 0, .int .i64 0])).run Tryd.prog W = .ok true W := fun W => hdr_eq W ⟨0, 0, 0, 0, 0, 0⟩ ⟨0, 0, 0, 0, 0, 0⟩
  have HA : Hid (∀ W, Below w.heap.size w W → Calls Tryd.prog 32 #[] W fun e w' => e = .returned (.bool true) ∧ Below W.heap.size W w') := fun W hb => rgawake_any W (Lib.hid (ht.out.below hb hz)) (Nat.lt_of_lt_of_le hz hb.size)
  have HNEW : Hid (∀ W, Calls Tryd.prog 25 #[.int .i64 120] W (NewDev W 120)) := fun W => new_dev 120 120 rfl W (by decide) (by decide)
  have HMAY := Lib.hid (fun W => refrgmay_any a b c d hv slot lay seq tail now W)
  unfold NewDev at HNEW
  go_enter Tryd.func6, Tryd.ntmps6
  go_upto_region 1 with fail
  generalize (w.alloc (.cells #[.int .i64 a, .int .i64 b, .int .i64 c, .int .i64 d] 23)).alloc (.cells #[.int .i64 hv, .int .i64 slot, .int .i64 lay, .int .i64 seq, .int .i64 tail, .int .i64 now] 60) = w0 at *
  go_wp2_with fail
  refine (rgappend_nil _ _ _ _).mono ?_
  rintro e w1 ⟨rfl, hb1⟩
  have HX1 := Lib.hid (HX0.out.next hb1)
  have HB1 := Lib.hid (HB0.out.trans (hb1.mono HB0.out.size))
  clear hb1 HX0 HB0
  go_wp2_with fail
  refine rgsync_nil.mono ?_
  rintro e w2 ⟨rfl, rfl⟩
  go_wp2_with fail
  refine rgroom_nil.mono ?_
  rintro e w2 ⟨rfl, rfl⟩
  go_wp2_with fail
  refine (rgread_nil _ _).mono ?_
  rintro e w2 ⟨rfl, rfl⟩
  go_wp2_with fail
  refine (rghead_nil _).mono ?_
  rintro e w2 ⟨rfl, hb2⟩
  have HX2 := Lib.hid (HX1.out.next hb2)
  have HB2 := Lib.hid (HB1.out.trans (hb2.mono HB1.out.size))
  clear hb2 HX1 HB1
  go_wp2_with fail
  refine (HNEW.out _).mono ?_
  rintro e w3 ⟨gd, cd, md, rfl, hd3, hnew, hb3⟩
  have HX3 := Lib.hid (HX2.out.next hb3)
  have HB3 := Lib.hid (HB2.out.trans (hb3.mono HB2.out.size))
  have HD3 := Lib.hid hd3
  have HNW := Lib.hid (devnew_on hnew HB2.out.size)
  have HFAR : Hid (∀ k, k < w2.heap.size → ¬ devS gd cd md k) := fun k hk e => by
    unfold DevNew at hnew
    unfold devS at e
    omega
  have HLT2 := Lib.hid HX2.out.lt
  clear hb3 hd3 hnew HX2 HB2 HNEW
  obtain ⟨⟨z0, z1, z2, z3⟩, y0, y1, y2, y3, y4, y5⟩ := HX3.out.cells
  go_wp2_with fail
  refine (rgopen_any (W := w) a b c d hv slot lay seq tail now HB3 HNW HD3 (Lib.hid (ht.out.below HB3.out hz)) (Nat.lt_of_lt_of_le hz HB3.out.size) (by show 0 < _; decide)).mono ?_
  intro e w4 ho
  clear z0 z1 z2 z3 y0 y1 y2 y3 y4 y5 kq
  rcases ho with ⟨hm, rfl, hb4⟩ | ⟨hm, hx, rfl, hd4, hk4⟩ | ⟨hm, hx, r, gp, cl, rfl, hst, hk4, -⟩
  · have HX4 := Lib.hid (HX3.out.next hb4)
    have HB4 := Lib.hid (HB3.out.trans (hb4.mono HB3.out.size))
    have HD4 := Lib.hid (HD3.out.on hb4)
    clear hb4 HX3 HB3 HD3
    generalize Rg.may ⟨a, b, c, d⟩ ⟨hv, slot, lay, seq, tail, now⟩ = m at *
    have f1 : (m == 0) = false := by simpa using hm
    have f2 : (m != 0) = true := by simpa using hm
    have f3 : (m == m) = true := by simp
    obtain ⟨⟨z0, z1, z2, z3⟩, y0, y1, y2, y3, y4, y5⟩ := HX4.out.cells
    go_wp2_with fail
    refine (HMAY.out _).mono ?_
    rintro e w5 ⟨rfl, hb5⟩
    have HB5 := Lib.hid (HB4.out.trans (hb5.mono HB4.out.size))
    have HD5 := Lib.hid (HD4.out.on hb5)
    clear hb5 HX4 z0 z1 z2 z3 y0 y1 y2 y3 y4 y5
    go_wp2_with fail
    refine (HA.out _ HB5.out).mono ?_
    rintro e w6 ⟨rfl, hb6⟩
    have HB6 := Lib.hid (HB5.out.trans (hb6.mono HB5.out.size))
    have CW := Lib.hid (writes_any (Lib.hid (HD5.out.on hb6)))
    rw [show (((Flash.fresh (List.replicate (120 * 64) 0)).wr : Nat) : Int) = 0 from rfl] at CW
    clear hb6
    go_wp2_with fail
    refine CW.out.mono ?_
    rintro e w7 ⟨rfl, rfl⟩
    go_wp2
    go_ret
    exact ⟨rfl, HB6.out⟩
  · have HX4 := Lib.hid (HX3.out.kept hk4 (HFAR.out _ HLT2.out.1) (HFAR.out _ HLT2.out.2))
    have HB4 := Lib.hid (dev_below HB3.out HNW.out hk4)
    have hok := (Rg.may_ok hm).2.2.2
    have hspot : 74 ≤ Gm.spot ⟨a, b, c, d⟩ slot ∧ Gm.spot ⟨a, b, c, d⟩ slot ≤ 32842 := Pk.spot_le hok
    have hsp : Gm.spot ⟨a, b, c, d⟩ slot = 74 + slot * c := rfl
    by_cases hs : Gm.spot ⟨a, b, c, d⟩ slot < 120
    · exact absurd (Rg.begun_plain (plain_fresh _) (n := 120) (by omega) (by rw [Hd.enc_length]; decide)).1 hx
    have hout := begun_out (plain_fresh (List.replicate (120 * 64) 0)) (n := 120) (x := Gm.spot ⟨a, b, c, d⟩ slot) (b := Hd.enc (Gm.spot ⟨a, b, c, d⟩ slot) ⟨hv, slot, lay, seq, tail, now⟩) (by omega)
    rw [hout] at hd4 ⊢
    have HD4 := Lib.hid hd4
    have f4 : decide (120 ≤ 74 + slot * c) = true := by simp only [decide_eq_true_eq]; omega
    clear hd4 hout hs hx
    obtain ⟨⟨z0, z1, z2, z3⟩, y0, y1, y2, y3, y4, y5⟩ := HX4.out.cells
    have m1 : wrap64 (slot * c) = slot * c := by unfold wrap64; omega
    have m2 : wrap64 (74 + slot * c) = 74 + slot * c := by unfold wrap64; omega
    rw [hm] at HMAY
    clear hok hspot hsp hm hk4 HX3 HB3 HD3
    go_wp2_with fail
    refine (HMAY.out _).mono ?_
    rintro e w5 ⟨rfl, hb5⟩
    have HB5 := Lib.hid (HB4.out.trans (hb5.mono HB4.out.size))
    have HX5 := Lib.hid (HX4.out.next hb5)
    have HD5 := Lib.hid (HD4.out.on hb5)
    clear hb5 HX4 z0 z1 z2 z3 y0 y1 y2 y3 y4 y5
    obtain ⟨⟨z0, z1, z2, z3⟩, y0, y1, y2, y3, y4, y5⟩ := HX5.out.cells
    go_wp2_with fail
    refine (HA.out _ HB5.out).mono ?_
    rintro e w6 ⟨rfl, hb6⟩
    have HB6 := Lib.hid (HB5.out.trans (hb6.mono HB5.out.size))
    have CW := Lib.hid (writes_any (Lib.hid (HD5.out.on hb6)))
    rw [show (((Flash.fresh (List.replicate (120 * 64) 0)).wr : Nat) : Int) = 0 from rfl] at CW
    clear hb6
    go_wp2_with fail
    refine CW.out.mono ?_
    rintro e w7 ⟨rfl, rfl⟩
    go_wp2
    go_ret
    exact ⟨rfl, HB6.out⟩
  · have HX4 := Lib.hid (HX3.out.kept hk4 (HFAR.out _ HLT2.out.1) (HFAR.out _ HLT2.out.2))
    have HB4 := Lib.hid (dev_below HB3.out HNW.out hk4)
    have hok := (Rg.may_ok hm).2.2.2
    have hspot : 74 ≤ Gm.spot ⟨a, b, c, d⟩ slot ∧ Gm.spot ⟨a, b, c, d⟩ slot ≤ 32842 := Pk.spot_le hok
    have hsp : Gm.spot ⟨a, b, c, d⟩ slot = 74 + slot * c := rfl
    by_cases hs : 120 ≤ Gm.spot ⟨a, b, c, d⟩ slot
    · have hout := begun_out (plain_fresh (List.replicate (120 * 64) 0)) (n := 120) (x := Gm.spot ⟨a, b, c, d⟩ slot) (b := Hd.enc (Gm.spot ⟨a, b, c, d⟩ slot) ⟨hv, slot, lay, seq, tail, now⟩) hs
      rw [hout] at hx
      exact absurd hx (by decide)
    have f4 : decide (120 ≤ 74 + slot * c) = false := by simp only [decide_eq_false_iff_not]; omega
    clear hs hx hst
    obtain ⟨⟨z0, z1, z2, z3⟩, y0, y1, y2, y3, y4, y5⟩ := HX4.out.cells
    have m1 : wrap64 (slot * c) = slot * c := by unfold wrap64; omega
    have m2 : wrap64 (74 + slot * c) = 74 + slot * c := by unfold wrap64; omega
    rw [hm] at HMAY
    clear hok hspot hsp hm hk4 HX3 HB3 HD3
    go_wp2_with fail
    refine (HMAY.out _).mono ?_
    rintro e w5 ⟨rfl, hb5⟩
    have HB5 := Lib.hid (HB4.out.trans (hb5.mono HB4.out.size))
    have HX5 := Lib.hid (HX4.out.next hb5)
    clear hb5 HX4 z0 z1 z2 z3 y0 y1 y2 y3 y4 y5
    obtain ⟨⟨z0, z1, z2, z3⟩, y0, y1, y2, y3, y4, y5⟩ := HX5.out.cells
    go_wp2_with fail
    refine (HA.out _ HB5.out).mono ?_
    rintro e w6 ⟨rfl, hb6⟩
    have HB6 := Lib.hid (HB5.out.trans (hb6.mono HB5.out.size))
    clear hb6
    go_wp2
    go_ret
    exact ⟨rfl, HB6.out⟩
end Go.Proofs.YtepbdicglgjcjaaDoor
