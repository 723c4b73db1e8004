/-
  The walks of package superpair: Publish.
-/
import Derived.Test.YtcjnhemlkahgoaaDoorSpMath
import Derived.Test.YtcjnhemlkahgoaaDoorSbDecode
import Derived.Test.YtcjnhemlkahgoaaDoorFlashCrash
set_option maxRecDepth 100000
namespace Go.Proofs.YtcjnhemlkahgoaaDoor
open Go.RowKit
theorem tabw_kept {S : Nat → Prop} {w w' : World} (h : TabW w) (hk : Kept S w w') (hz : 0 < w.heap.size) (hs : ¬ S 0) : TabW w' := fun k hk' => (World.cell?_of_block (hk.block 0 hz hs)).trans (h k hk')
set_option maxHeartbeats 1000000 in
theorem sectorof_any (a0 a1 a2 a3 a4 t0 t1 t2 t3 h0 h1 h2 h3 : Int) (A : Option Addr) (n c : Nat) (w : World) :
    Calls Tryd.prog 44 #[.agg #[.int .i64 a0, .int .i64 a1, .int .i64 a2, .int .i64 a3, .int .i64 a4, .int .i64 t0, .int .i64 t1, .int .i64 t2, .int .i64 t3, .int .i64 h0, .int .i64 h1, .int .i64 h2, .int .i64 h3, .slice A n c]] w fun r w' => r = .returned (.int .i64 (a0.tmod 2)) ∧ Below w.heap.size w w' := by
  have HS0 := Lib.hid (sd_new w #[.int .i64 a0, .int .i64 a1, .int .i64 a2, .int .i64 a3, .int .i64 a4, .int .i64 t0, .int .i64 t1, .int .i64 t2, .int .i64 t3, .int .i64 h0, .int .i64 h1, .int .i64 h2, .int .i64 h3, .slice A n c] 27)
  go_enter Tryd.func44, Tryd.ntmps44
  go_upto_region 1 with fail
  generalize w.alloc (.cells #[.int .i64 a0, .int .i64 a1, .int .i64 a2, .int .i64 a3, .int .i64 a4, .int .i64 t0, .int .i64 t1, .int .i64 t2, .int .i64 t3, .int .i64 h0, .int .i64 h1, .int .i64 h2, .int .i64 h3, .slice A n c] 27) = w0 at *
  obtain ⟨x0, x1, x2, x3, x4, x5, x6, x7, x8, x9, x10, x11, x12, x13⟩ := cells14 HS0.out.1
  go_wp2
  go_ret
  exact ⟨rfl, HS0.out.2⟩
set_option maxHeartbeats 4000000 in
theorem publish_any (a0 a1 a2 a3 a4 t0 t1 t2 t3 h0 h1 h2 h3 : Int) (A : Option Addr) (n c : Nat) (l : List Sb.L) (g cb m nn : Nat) (fs : Flash) (w : World) (hs : SlIs A n c) (hl : Hid (l.length = n)) (hb : Hid (Ls w w.heap.size A l)) (ht : Hid (TabW w)) (hz : 0 < w.heap.size) (hd : Hid (Dev w g cb m nn fs)) (hwr : fs.wr < 4611686018427387904) :
    Calls Tryd.prog 18 #[.pointer (some ⟨g, 0, none⟩), .agg #[.int .i64 a0, .int .i64 a1, .int .i64 a2, .int .i64 a3, .int .i64 a4, .int .i64 t0, .int .i64 t1, .int .i64 t2, .int .i64 t3, .int .i64 h0, .int .i64 h1, .int .i64 h2, .int .i64 h3, .slice A n c]] w (WriteDid w g cb m nn (fs.pub nn ⟨a0, a1, a2, a3, a4, ⟨t0, t1, t2, t3⟩, ⟨h0, h1, h2, h3⟩, l⟩) (fs.pubErr nn ⟨a0, a1, a2, a3, a4, ⟨t0, t1, t2, t3⟩, ⟨h0, h1, h2, h3⟩, l⟩)) := by
  have HD : Hid (∀ W, Below w.heap.size w W → Dev W g cb m nn fs) := fun W hW => hd.out.below hW hd.out.lt.1 hd.out.lt.2.1 hd.out.lt.2.2
  have HSO := Lib.hid (fun W => sectorof_any a0 a1 a2 a3 a4 t0 t1 t2 t3 h0 h1 h2 h3 A n c W)
  have HEN : Hid (∀ W, Below w.heap.size w W → Calls Tryd.prog 31 #[.agg #[.int .i64 a0, .int .i64 a1, .int .i64 a2, .int .i64 a3, .int .i64 a4, .int .i64 t0, .int .i64 t1, .int .i64 t2, .int .i64 t3, .int .i64 h0, .int .i64 h1, .int .i64 h2, .int .i64 h3, .slice A n c], .int .i64 (a0.tmod 2)] W (FrEnc W (Sb.enc (a0.tmod 2) ⟨a0, a1, a2, a3, a4, ⟨t0, t1, t2, t3⟩, ⟨h0, h1, h2, h3⟩, l⟩) (Sb.err ⟨a0, a1, a2, a3, a4, ⟨t0, t1, t2, t3⟩, ⟨h0, h1, h2, h3⟩, l⟩ (a0.tmod 2)))) := fun W hW =>
    sbencode_any a0 a1 a2 a3 a4 t0 t1 t2 t3 h0 h1 h2 h3 (a0.tmod 2) A w.heap.size n c l W hW.size hs hl (hb.out.below hW (Nat.le_refl _)) (ht.out.below hW hz) (Nat.lt_of_lt_of_le hz hW.size)
  have HS0 := Lib.hid (sd_new w #[.int .i64 a0, .int .i64 a1, .int .i64 a2, .int .i64 a3, .int .i64 a4, .int .i64 t0, .int .i64 t1, .int .i64 t2, .int .i64 t3, .int .i64 h0, .int .i64 h1, .int .i64 h2, .int .i64 h3, .slice A n c] 27)
  unfold FrEnc at HEN
  unfold WriteDid
  clear hb ht hz hd hs
  by_cases hv : Sb.valid ⟨a0, a1, a2, a3, a4, ⟨t0, t1, t2, t3⟩, ⟨h0, h1, h2, h3⟩, l⟩
  · have hx : a0.tmod 2 = a0 % 2 := Int.tmod_eq_emod_of_nonneg (by have := hv.1.1.1; simp at this; omega)
    rw [hx] at HSO HEN
    have her : Sb.err ⟨a0, a1, a2, a3, a4, ⟨t0, t1, t2, t3⟩, ⟨h0, h1, h2, h3⟩, l⟩ (a0 % 2) = 0 := by unfold Sb.err; rw [if_pos hv, if_pos (by omega)]
    rw [her] at HEN
    have HLT := Lib.hid (Sb.enc_lt (a0 % 2) ⟨a0, a1, a2, a3, a4, ⟨t0, t1, t2, t3⟩, ⟨h0, h1, h2, h3⟩, l⟩)
    have HLE := Lib.hid (Sb.enc_length (a0 % 2) ⟨a0, a1, a2, a3, a4, ⟨t0, t1, t2, t3⟩, ⟨h0, h1, h2, h3⟩, l⟩)
    unfold Flash.pub Flash.pubErr
    rw [if_pos hv, if_pos hv]
    simp only
    clear hv her hx
    generalize Sb.enc (a0 % 2) ⟨a0, a1, a2, a3, a4, ⟨t0, t1, t2, t3⟩, ⟨h0, h1, h2, h3⟩, l⟩ = en at *
    generalize a0 % 2 = x at *
    have HW : Hid (∀ W A4 c4, Dev W g cb m nn fs → Bs W W.heap.size A4 en → Calls Tryd.prog 45 #[.pointer (some ⟨g, 0, none⟩), .int .i64 x, .slice A4 64 c4] W (WriteDid W g cb m nn (fs.write nn x en) (fs.writeErr nn x en))) := fun W A4 c4 h1 h2 =>
      write_any x A4 W.heap.size 64 c4 en (by decide) HLE.out h2 h1 hwr
    have HBA : Hid (∀ W, Dev W g cb m nn (fs.write nn x en) → Calls Tryd.prog 46 #[.pointer (some ⟨g, 0, none⟩)] W (BarrierDid W g cb m nn (fs.write nn x en).barrier (fs.write nn x en).barrierErr)) := fun W h1 => barrier_any h1
    unfold WriteDid at HW
    unfold BarrierDid at HBA
    generalize (fs.write nn x en).barrierErr = be at *
    generalize (fs.write nn x en).barrier = f2 at *
    generalize fs.write nn x en = f1 at *
    generalize fs.writeErr nn x en = we at *
    by_cases h0 : we = 0
    · subst h0
      rw [if_pos rfl, if_pos rfl]
      go_enter Tryd.func18, Tryd.ntmps18
      go_upto_region 1 with fail
      generalize w.alloc (.cells #[.int .i64 a0, .int .i64 a1, .int .i64 a2, .int .i64 a3, .int .i64 a4, .int .i64 t0, .int .i64 t1, .int .i64 t2, .int .i64 t3, .int .i64 h0, .int .i64 h1, .int .i64 h2, .int .i64 h3, .slice A n c] 27) = w0 at *
      obtain ⟨x0, x1, x2, x3, x4, x5, x6, x7, x8, x9, x10, x11, x12, x13⟩ := cells14 HS0.out.1
      go_wp2_with fail
      refine (HSO.out _).mono ?_
      rintro r w1 ⟨rfl, hb1⟩
      have HS1 := Lib.hid (HS0.out.next hb1 (by rfl) (by rfl) (by rfl) (by rfl))
      clear hb1 x0 x1 x2 x3 x4 x5 x6 x7 x8 x9 x10 x11 x12 x13
      obtain ⟨x0, x1, x2, x3, x4, x5, x6, x7, x8, x9, x10, x11, x12, x13⟩ := cells14 HS1.out.1
      go_wp2_with fail
      refine (HEN.out _ HS1.out.2).mono ?_
      rintro r w2 ⟨A4, n4, c4, rfl, -, hy, -, hb2⟩
      have HS2 := Lib.hid (HS1.out.next hb2 (by rfl) (by rfl) (by rfl) (by rfl))
      obtain ⟨rfl, hown⟩ := hy (by first | exact rfl | exact trivial)
      obtain ⟨A4', c4', e4, hbs, -, -, -, -⟩ := own_bytes hown HLT.out
      injection e4 with e4 _ e5
      subst e4 e5
      have HB2 := Lib.hid hbs
      have HK2 : Hid (Kept (devS g cb m) w w2) := Kept.of_new HS2.out.2
      clear hy hown hbs hb2 x0 x1 x2 x3 x4 x5 x6 x7 x8 x9 x10 x11 x12 x13
      go_wp2_with fail
      refine (HW.out _ A4 c4 (HD.out _ HS2.out.2) (bs_own HB2.out)).mono ?_
      rintro r w3 ⟨rfl, hd3, hk3⟩
      have HW3 := Lib.hid (And.intro hd3 hk3)
      clear hd3 hk3
      go_wp2_with fail
      refine (HBA.out _ HW3.out.1).mono ?_
      rintro r w4 ⟨rfl, hd4, hk4⟩
      have HK4 := Lib.hid (And.intro hd4 hk4)
      clear hd4 hk4
      go_wp2
      go_ret
      exact ⟨rfl, HK4.out.1, (HK2.out.trans HW3.out.2).trans (HK4.out.2.mono fun k _ h => by unfold devS; omega)⟩
    · have hne : (we != 0) = true := by rw [bne_iff_ne]; exact h0
      rw [if_neg h0, if_neg h0]
      clear h0
      go_enter Tryd.func18, Tryd.ntmps18
      go_upto_region 1 with fail
      generalize w.alloc (.cells #[.int .i64 a0, .int .i64 a1, .int .i64 a2, .int .i64 a3, .int .i64 a4, .int .i64 t0, .int .i64 t1, .int .i64 t2, .int .i64 t3, .int .i64 h0, .int .i64 h1, .int .i64 h2, .int .i64 h3, .slice A n c] 27) = w0 at *
      obtain ⟨x0, x1, x2, x3, x4, x5, x6, x7, x8, x9, x10, x11, x12, x13⟩ := cells14 HS0.out.1
      go_wp2_with fail
      refine (HSO.out _).mono ?_
      rintro r w1 ⟨rfl, hb1⟩
      have HS1 := Lib.hid (HS0.out.next hb1 (by rfl) (by rfl) (by rfl) (by rfl))
      clear hb1 x0 x1 x2 x3 x4 x5 x6 x7 x8 x9 x10 x11 x12 x13
      obtain ⟨x0, x1, x2, x3, x4, x5, x6, x7, x8, x9, x10, x11, x12, x13⟩ := cells14 HS1.out.1
      go_wp2_with fail
      refine (HEN.out _ HS1.out.2).mono ?_
      rintro r w2 ⟨A4, n4, c4, rfl, -, hy, -, hb2⟩
      have HS2 := Lib.hid (HS1.out.next hb2 (by rfl) (by rfl) (by rfl) (by rfl))
      obtain ⟨rfl, hown⟩ := hy (by first | exact rfl | exact trivial)
      obtain ⟨A4', c4', e4, hbs, -, -, -, -⟩ := own_bytes hown HLT.out
      injection e4 with e4 _ e5
      subst e4 e5
      have HB2 := Lib.hid hbs
      have HK2 : Hid (Kept (devS g cb m) w w2) := Kept.of_new HS2.out.2
      clear hy hown hbs hb2 x0 x1 x2 x3 x4 x5 x6 x7 x8 x9 x10 x11 x12 x13
      go_wp2_with fail
      refine (HW.out _ A4 c4 (HD.out _ HS2.out.2) (bs_own HB2.out)).mono ?_
      rintro r w3 ⟨rfl, hd3, hk3⟩
      have HW3 := Lib.hid (And.intro hd3 hk3)
      clear hd3 hk3
      go_wp2
      go_ret
      exact ⟨rfl, HW3.out.1, HK2.out.trans HW3.out.2⟩
  · have her : Sb.err ⟨a0, a1, a2, a3, a4, ⟨t0, t1, t2, t3⟩, ⟨h0, h1, h2, h3⟩, l⟩ (a0.tmod 2) = 4 := by unfold Sb.err; rw [if_neg hv]
    rw [her] at HEN
    rw [(pub_bad hv fs).1, (pub_bad hv fs).2]
    clear hv her
    generalize a0.tmod 2 = x at *
    generalize Sb.enc x ⟨a0, a1, a2, a3, a4, ⟨t0, t1, t2, t3⟩, ⟨h0, h1, h2, h3⟩, l⟩ = en at *
    go_enter Tryd.func18, Tryd.ntmps18
    go_upto_region 1 with fail
    generalize w.alloc (.cells #[.int .i64 a0, .int .i64 a1, .int .i64 a2, .int .i64 a3, .int .i64 a4, .int .i64 t0, .int .i64 t1, .int .i64 t2, .int .i64 t3, .int .i64 h0, .int .i64 h1, .int .i64 h2, .int .i64 h3, .slice A n c] 27) = w0 at *
    obtain ⟨x0, x1, x2, x3, x4, x5, x6, x7, x8, x9, x10, x11, x12, x13⟩ := cells14 HS0.out.1
    go_wp2_with fail
    refine (HSO.out _).mono ?_
    rintro r w1 ⟨rfl, hb1⟩
    have HS1 := Lib.hid (HS0.out.next hb1 (by rfl) (by rfl) (by rfl) (by rfl))
    clear hb1 x0 x1 x2 x3 x4 x5 x6 x7 x8 x9 x10 x11 x12 x13
    obtain ⟨x0, x1, x2, x3, x4, x5, x6, x7, x8, x9, x10, x11, x12, x13⟩ := cells14 HS1.out.1
    go_wp2_with fail
    refine (HEN.out _ HS1.out.2).mono ?_
    rintro r w2 ⟨A4, n4, c4, rfl, -, -, -, hb2⟩
    have HS2 := Lib.hid (HS1.out.next hb2 (by rfl) (by rfl) (by rfl) (by rfl))
    clear hb2
    go_wp2
    go_ret
    exact ⟨rfl, HD.out _ HS2.out.2, Kept.of_new HS2.out.2⟩
end Go.Proofs.YtcjnhemlkahgoaaDoor
