/-
  The walks of package planlog: Sector, Append; of the reference's Sector, and of the laws' target.
-/
import Derived.Test.YtpidbakjpfngnaaDoorLgWords
import Derived.Test.YtpidbakjpfngnaaDoorPlEncode
import Derived.Test.YtpidbakjpfngnaaDoorFlashB
set_option maxRecDepth 100000
namespace Go.Proofs.YtpidbakjpfngnaaDoor
open Go.RowKit
set_option maxHeartbeats 1000000 in
theorem lgsector_any (m i : Int) (w : World) :
    Calls Tryd.prog 8 #[.int .i64 m, .int .i64 i] w fun r w' => r = .returned (.int .i64 (Lg.sector m i)) ∧ w = w' := by
  by_cases h1 : 1 ≤ m
  · have d1 : decide (m < 1) = false := decide_eq_false (by omega)
    have hm : m.tmod 2 = m % 2 := Int.tmod_eq_emod_of_nonneg (by omega)
    by_cases h2 : 0 ≤ i
    · have d2 : decide (i < 0) = false := decide_eq_false (by omega)
      by_cases h3 : i < 36
      · have d3 : decide (36 ≤ i) = false := decide_eq_false (by omega)
        rw [Lg.sector_in ⟨h1, h2, h3⟩]
        rcases (show m % 2 = 0 ∨ m % 2 = 1 by omega) with e | e
        · rw [e] at hm ⊢
          go_enter Tryd.func8, Tryd.ntmps8
          go_wp2
          go_ret
          exact ⟨congrArg (fun k => Ending.returned (.int .i64 k)) (by omega), rfl⟩
        · rw [e] at hm ⊢
          go_enter Tryd.func8, Tryd.ntmps8
          go_wp2
          go_ret
          exact ⟨congrArg (fun k => Ending.returned (.int .i64 k)) (by omega), rfl⟩
      · have d3 : decide (36 ≤ i) = true := decide_eq_true (by omega)
        rw [Lg.sector_out (fun h => h3 h.2.2)]
        go_enter Tryd.func8, Tryd.ntmps8
        go_wp2
        go_ret
        exact ⟨rfl, rfl⟩
    · have d2 : decide (i < 0) = true := decide_eq_true (by omega)
      rw [Lg.sector_out (fun h => h2 h.2.1)]
      go_enter Tryd.func8, Tryd.ntmps8
      go_wp2
      go_ret
      exact ⟨rfl, rfl⟩
  · have d1 : decide (m < 1) = true := decide_eq_true (by omega)
    rw [Lg.sector_out (fun h => h1 h.1)]
    go_enter Tryd.func8, Tryd.ntmps8
    go_wp2
    go_ret
    exact ⟨rfl, rfl⟩
set_option maxHeartbeats 1000000 in
theorem reflgsector_any (m i : Int) (w : World) :
    Calls Tryd.prog 9 #[.int .i64 m, .int .i64 i] w fun r w' => r = .returned (.int .i64 (Lg.sector m i)) ∧ w = w' := by
  by_cases h1 : 1 ≤ m
  · have d1 : decide (m < 1) = false := decide_eq_false (by omega)
    have hm : m.tmod 2 = m % 2 := Int.tmod_eq_emod_of_nonneg (by omega)
    by_cases h2 : 0 ≤ i
    · have d2 : decide (i < 0) = false := decide_eq_false (by omega)
      by_cases h3 : i < 36
      · have d3 : decide (36 ≤ i) = false := decide_eq_false (by omega)
        rw [Lg.sector_in ⟨h1, h2, h3⟩]
        rcases (show m % 2 = 0 ∨ m % 2 = 1 by omega) with e | e
        · rw [e] at hm ⊢
          go_enter Tryd.func9, Tryd.ntmps9
          go_wp2
          go_ret
          exact ⟨congrArg (fun k => Ending.returned (.int .i64 k)) (by omega), rfl⟩
        · rw [e] at hm ⊢
          go_enter Tryd.func9, Tryd.ntmps9
          go_wp2
          go_ret
          exact ⟨congrArg (fun k => Ending.returned (.int .i64 k)) (by omega), rfl⟩
      · have d3 : decide (36 ≤ i) = true := decide_eq_true (by omega)
        rw [Lg.sector_out (fun h => h3 h.2.2)]
        go_enter Tryd.func9, Tryd.ntmps9
        go_wp2
        go_ret
        exact ⟨rfl, rfl⟩
    · have d2 : decide (i < 0) = true := decide_eq_true (by omega)
      rw [Lg.sector_out (fun h => h2 h.2.1)]
      go_enter Tryd.func9, Tryd.ntmps9
      go_wp2
      go_ret
      exact ⟨rfl, rfl⟩
  · have d1 : decide (m < 1) = true := decide_eq_true (by omega)
    rw [Lg.sector_out (fun h => h1 h.1)]
    go_enter Tryd.func9, Tryd.ntmps9
    go_wp2
    go_ret
    exact ⟨rfl, rfl⟩

/-- The tables that the program reads. -/
def Tabs (w : World) : Prop := TabW w ∧ DbW w ∧ 0 < w.heap.size ∧ 2 < w.heap.size
theorem Tabs.below {w w' : World} {B : Nat} (h : Tabs w) (hb : Below B w w') (h0 : 0 < B) (h1 : 2 < B) : Tabs w' :=
  ⟨h.1.below hb h0, h.2.1.below hb h1, Nat.lt_of_lt_of_le h.2.2.1 hb.size, Nat.lt_of_lt_of_le h.2.2.2 hb.size⟩
theorem Tabs.next {w w' : World} (h : Tabs w) (hb : Below w.heap.size w w') : Tabs w' := h.below hb h.2.2.1 h.2.2.2
theorem lgtarget_any (w : World) : Calls Tryd.prog 21 #[] w fun r w' => r = .returned (.agg #[.int .i64 2, .int .i64 1, .int .i64 4, .int .i64 4]) ∧ Below w.heap.size w w' := by
  go_enter Tryd.func21, Tryd.ntmps21
  have HS0 := Lib.hid (sd_new w #[.int .i64 0, .int .i64 0, .int .i64 0, .int .i64 0] 32)
  go_upto_region 1 with fail
  generalize w.alloc (.cells #[.int .i64 0, .int .i64 0, .int .i64 0, .int .i64 0] 32) = w0 at *
  obtain ⟨z0, z1, z2, z3⟩ := four_cells HS0.out.1
  obtain ⟨f0, f1, f2, f3⟩ := four_frozen HS0.out.1
  go_wp2
  (try simp only [Exit.inBlock, Exit.then])
  refine bodyPost_ret (results_cell_row rfl _ _ w.heap.size _ _ (0, 0) _ rfl (stored HS0.out.1) Tryd.underlying32 rfl (by kernel_rfl)) rfl ?_
  exact ⟨rfl, (sd_stored HS0.out (Nat.le_refl _)).2⟩
set_option maxHeartbeats 4000000 in
theorem append_any (k m i t a b c d : Int) (g cb mb nn : Nat) (fs : Flash) (w : World) (ht : Hid (Tabs w)) (hd : Hid (Dev w g cb mb nn fs)) (hwr : fs.wr < 4611686018427387904) :
    Calls Tryd.prog 12 #[.pointer (some ⟨g, 0, none⟩), .agg #[.int .i64 k, .int .i64 m, .int .i64 i, .int .i64 t, .int .i64 a, .int .i64 b, .int .i64 c, .int .i64 d]] w (WriteDid w g cb mb nn (fs.app nn ⟨k, m, i, t, ⟨a, b, c, d⟩⟩) (fs.appErr nn ⟨k, m, i, t, ⟨a, b, c, d⟩⟩)) := by
  have HD : Hid (∀ W, Below w.heap.size w W → Dev W g cb mb nn fs) := fun W hW => hd.out.below hW hd.out.lt.1 hd.out.lt.2.1 hd.out.lt.2.2
  have HSO := Lib.hid (fun W => lgsector_any m i W)
  have HEN : Hid (∀ W, Below w.heap.size w W → Calls Tryd.prog 27 #[.agg #[.int .i64 k, .int .i64 m, .int .i64 i, .int .i64 t, .int .i64 a, .int .i64 b, .int .i64 c, .int .i64 d], .int .i64 (Lg.sector m i)] W (FrEnc W (Pl.enc (Lg.sector m i) ⟨k, m, i, t, ⟨a, b, c, d⟩⟩) (Pl.err ⟨k, m, i, t, ⟨a, b, c, d⟩⟩ (Lg.sector m i)))) := fun W hW =>
    plencode_any k m i t a b c d (Lg.sector m i) W (ht.out.next hW).1 (ht.out.next hW).2.2.1 (Lib.hid (fun W' hW' => ((ht.out.next hW).next hW').2.1))
  have HS0 := Lib.hid (sd_new w #[.int .i64 k, .int .i64 m, .int .i64 i, .int .i64 t, .int .i64 a, .int .i64 b, .int .i64 c, .int .i64 d] 34)
  unfold FrEnc at HEN
  unfold WriteDid
  clear ht hd
  by_cases hv : Pl.valid ⟨k, m, i, t, ⟨a, b, c, d⟩⟩
  · have hrg := Lg.sector_range (Lg.valid_at hv)
    have her : Pl.err ⟨k, m, i, t, ⟨a, b, c, d⟩⟩ (Lg.sector m i) = 0 := by unfold Pl.err; rw [if_pos hv, if_pos (by simp only at hrg; omega)]
    rw [her] at HEN
    have HLT := Lib.hid (Pl.enc_lt (Lg.sector m i) ⟨k, m, i, t, ⟨a, b, c, d⟩⟩)
    have HLE := Lib.hid (Pl.enc_length (Lg.sector m i) ⟨k, m, i, t, ⟨a, b, c, d⟩⟩)
    unfold Flash.app Flash.appErr
    rw [if_pos hv, if_pos hv]
    simp only
    clear hv her hrg
    generalize Pl.enc (Lg.sector m i) ⟨k, m, i, t, ⟨a, b, c, d⟩⟩ = en at *
    generalize Lg.sector m i = x at *
    have HW : Hid (∀ W A4 c4, Dev W g cb mb nn fs → Bs W W.heap.size A4 en → Calls Tryd.prog 28 #[.pointer (some ⟨g, 0, none⟩), .int .i64 x, .slice A4 64 c4] W (WriteDid W g cb mb nn (fs.write nn x en) (fs.writeErr nn x en))) := fun W A4 c4 h1 h2 =>
      write_any x A4 W.heap.size 64 c4 en (by decide) HLE.out h2 h1 hwr
    have HBA : Hid (∀ W, Dev W g cb mb nn (fs.write nn x en) → Calls Tryd.prog 29 #[.pointer (some ⟨g, 0, none⟩)] W (BarrierDid W g cb mb nn (fs.write nn x en).barrier (fs.write nn x en).barrierErr)) := fun W h1 => barrier_any h1
    unfold WriteDid at HW
    unfold BarrierDid at HBA
    generalize (fs.write nn x en).barrierErr = be at *
    generalize (fs.write nn x en).barrier = f2 at *
    generalize fs.write nn x en = f1 at *
    generalize fs.writeErr nn x en = we at *
    by_cases h0 : we = 0
    · subst h0
      rw [if_pos rfl, if_pos rfl]
      go_enter Tryd.func12, Tryd.ntmps12
      go_upto_region 1 with fail
      generalize w.alloc (.cells #[.int .i64 k, .int .i64 m, .int .i64 i, .int .i64 t, .int .i64 a, .int .i64 b, .int .i64 c, .int .i64 d] 34) = w0 at *
      obtain ⟨z0, z1, z2, z3, z4, z5, z6, z7⟩ := eight_cells HS0.out.1
      go_wp2_with fail
      refine (HSO.out _).mono ?_
      rintro r w1 ⟨rfl, rfl⟩
      go_wp2_with fail
      refine (HEN.out _ HS0.out.2).mono ?_
      rintro r w2 ⟨A4, n4, c4, rfl, -, hy, -, hb2⟩
      have HS2 := Lib.hid (HS0.out.next hb2 (by rfl) (by rfl) (by rfl) (by rfl))
      obtain ⟨rfl, hown⟩ := hy (by first | exact rfl | exact trivial)
      obtain ⟨A4', c4', e4, hbs, -, -, -, -⟩ := own_bytes hown HLT.out
      injection e4 with e4 _ e5
      subst e4 e5
      have HB2 := Lib.hid hbs
      have HK2 : Hid (Kept (devS g cb mb) w w2) := Kept.of_new HS2.out.2
      clear hy hown hbs hb2 z0 z1 z2 z3 z4 z5 z6 z7
      go_wp2_with fail
      refine (HW.out _ A4 c4 (HD.out _ HS2.out.2) HB2.out).mono ?_
      rintro r w3 ⟨rfl, hd3, hk3⟩
      have HW3 := Lib.hid (And.intro hd3 hk3)
      clear hd3 hk3
      go_wp2_with fail
      refine (HBA.out _ HW3.out.1).mono ?_
      rintro r w4 ⟨rfl, hd4, hk4⟩
      have HK4 := Lib.hid (And.intro hd4 hk4)
      clear hd4 hk4
      go_wp2
      go_ret
      exact ⟨rfl, HK4.out.1, (HK2.out.trans HW3.out.2).trans (HK4.out.2.mono fun k _ h => by unfold devS; omega)⟩
    · have hne : (we != 0) = true := by rw [bne_iff_ne]; exact h0
      rw [if_neg h0, if_neg h0]
      clear h0
      go_enter Tryd.func12, Tryd.ntmps12
      go_upto_region 1 with fail
      generalize w.alloc (.cells #[.int .i64 k, .int .i64 m, .int .i64 i, .int .i64 t, .int .i64 a, .int .i64 b, .int .i64 c, .int .i64 d] 34) = w0 at *
      obtain ⟨z0, z1, z2, z3, z4, z5, z6, z7⟩ := eight_cells HS0.out.1
      go_wp2_with fail
      refine (HSO.out _).mono ?_
      rintro r w1 ⟨rfl, rfl⟩
      go_wp2_with fail
      refine (HEN.out _ HS0.out.2).mono ?_
      rintro r w2 ⟨A4, n4, c4, rfl, -, hy, -, hb2⟩
      have HS2 := Lib.hid (HS0.out.next hb2 (by rfl) (by rfl) (by rfl) (by rfl))
      obtain ⟨rfl, hown⟩ := hy (by first | exact rfl | exact trivial)
      obtain ⟨A4', c4', e4, hbs, -, -, -, -⟩ := own_bytes hown HLT.out
      injection e4 with e4 _ e5
      subst e4 e5
      have HB2 := Lib.hid hbs
      have HK2 : Hid (Kept (devS g cb mb) w w2) := Kept.of_new HS2.out.2
      clear hy hown hbs hb2 z0 z1 z2 z3 z4 z5 z6 z7
      go_wp2_with fail
      refine (HW.out _ A4 c4 (HD.out _ HS2.out.2) HB2.out).mono ?_
      rintro r w3 ⟨rfl, hd3, hk3⟩
      have HW3 := Lib.hid (And.intro hd3 hk3)
      clear hd3 hk3
      go_wp2
      go_ret
      exact ⟨rfl, HW3.out.1, HK2.out.trans HW3.out.2⟩
  · have her : Pl.err ⟨k, m, i, t, ⟨a, b, c, d⟩⟩ (Lg.sector m i) = 4 := by unfold Pl.err; rw [if_neg hv]
    rw [her] at HEN
    rw [(Lg.app_bad hv fs).1, (Lg.app_bad hv fs).2]
    clear hv her
    generalize Pl.enc (Lg.sector m i) ⟨k, m, i, t, ⟨a, b, c, d⟩⟩ = en at *
    generalize Lg.sector m i = x at *
    go_enter Tryd.func12, Tryd.ntmps12
    go_upto_region 1 with fail
    generalize w.alloc (.cells #[.int .i64 k, .int .i64 m, .int .i64 i, .int .i64 t, .int .i64 a, .int .i64 b, .int .i64 c, .int .i64 d] 34) = w0 at *
    obtain ⟨z0, z1, z2, z3, z4, z5, z6, z7⟩ := eight_cells HS0.out.1
    go_wp2_with fail
    refine (HSO.out _).mono ?_
    rintro r w1 ⟨rfl, rfl⟩
    go_wp2_with fail
    refine (HEN.out _ HS0.out.2).mono ?_
    rintro r w2 ⟨A4, n4, c4, rfl, -, hy, -, hb2⟩
    have HS2 := Lib.hid (HS0.out.next hb2 (by rfl) (by rfl) (by rfl) (by rfl))
    clear hb2
    go_wp2
    go_ret
    exact ⟨rfl, HD.out _ HS2.out.2, Kept.of_new HS2.out.2⟩
end Go.Proofs.YtpidbakjpfngnaaDoor
