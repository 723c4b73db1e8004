/-
  The walk of superblock.Decode.
-/
import Derived.Test.YtcjnhemlkahgoaaDoorSbParse
import Derived.Test.YtcjnhemlkahgoaaDoorSbFour
namespace Go.Proofs.YtcjnhemlkahgoaaDoor
open Go.RowKit
/-- No superblock was decoded. -/
def NoSb (w : World) (r : Ending) (w' : World) : Prop := r = .returned (.tuple #[.agg #[.int .i64 0, .int .i64 0, .int .i64 0, .int .i64 0, .int .i64 0, .int .i64 0, .int .i64 0, .int .i64 0, .int .i64 0, .int .i64 0, .int .i64 0, .int .i64 0, .int .i64 0, .slice none 0 0], .bool false]) ∧ Below w.heap.size w w'
/-- The superblock s was decoded. -/
def HasSb (w : World) (s : Sb.S) (r : Ending) (w' : World) : Prop := ∃ A n c, r = .returned (.tuple #[.agg #[.int .i64 s.gen, .int .i64 s.phase, .int .i64 s.mig, .int .i64 s.tail, .int .i64 s.now, .int .i64 s.t.id, .int .i64 s.t.ver, .int .i64 s.t.rs, .int .i64 s.t.reg, .int .i64 s.h.id, .int .i64 s.h.ver, .int .i64 s.h.rs, .int .i64 s.h.reg, .slice A n c], .bool true]) ∧ (SbAt w' w'.heap.size s A n c ∧ ∀ ad, A = some ad → w.heap.size ≤ ad.block) ∧ Below w.heap.size w w'
/-- What Decode returns. -/
def DecSb (w : World) (x : Int) (l : List Nat) (r : Ending) (w' : World) : Prop := (∃ s, Sb.good x l s ∧ HasSb w s r w') ∨ ((¬ ∃ s, Sb.good x l s) ∧ NoSb w r w')
theorem SbAt.own {w : World} {B : Nat} {s : Sb.S} {A : Option Addr} {n c : Nat} (h : SbAt w B s A n c) : SbAt w w.heap.size s A n c := ⟨h.1, h.2.1, fun k hk => by
  obtain ⟨ad, e, _, h0, h1⟩ := h.2.2 k hk
  refine ⟨ad, e, ?_, h0, h1⟩
  have := World.block_lt_of_cell? w _ h0
  rwa [add_block] at this⟩
theorem SbAt.grown {w w' : World} {B r : Nat} {s : Sb.S} {A : Option Addr} {n c : Nat} (h : SbAt w B s A n c) (hg : w.grownBy w' (some r)) (hr : ∀ k, k < s.f.length → ∀ ad, A = some ad → ad.block ≠ r) : SbAt w' B s A n c := ⟨h.1, h.2.1, fun k hk => by
  obtain ⟨ad, e, hB, h0, h1, h2, h3⟩ := h.2.2 k hk
  have hn := hr k hk ad e
  have q : ∀ j v, w.cell? (ad.add j) = some v → w'.cell? (ad.add j) = some v := fun j v hv => hg.cell hv (fun e => by rw [add_block] at e; injection e with e; exact hn e)
  exact ⟨ad, e, hB, q _ _ h0, q _ _ h1, q _ _ h2, q _ _ h3⟩⟩
set_option maxHeartbeats 4000000 in
theorem sbdecode_any (x : Int) (A : Option Addr) (B n c : Nat) (l : List Nat) (w : World) (hB : B ≤ w.heap.size) (hs : SlIs A n c) (hl : Hid (l.length = n)) (hb : Hid (Bs w B A l)) (ht : Hid (TabW w)) (hz : 0 < w.heap.size) :
    Calls Tryd.prog 8 #[.slice A n c, .int .i64 x] w (DecSb w x l) := by
  have HD : Hid (∀ W, Below w.heap.size w W → Calls Tryd.prog 29 #[.int .i64 3, .int .i64 0, .int .i64 x, .slice A n c] W fun e w' => (Fr.good 3 0 x l ∧ GotFr W (Rc.sub l 1 59) e w') ∨ (¬ Fr.good 3 0 x l ∧ NoFr W e w')) := fun W hW =>
    frdecode_any 3 0 x A B n c l W (by decide) (Nat.le_trans hB hW.size) hs hl (hb.out.below hW hB) (ht.out.below hW hz) (Nat.lt_of_lt_of_le hz hW.size)
  have HPA : Hid (Fr.good 3 0 x l → ∀ W A1 c1, SlIs A1 59 c1 → Bs W W.heap.size A1 (Rc.sub l 1 59) → Calls Tryd.prog 30 #[.slice A1 59 c1] W (GotSb W (Sb.rd Sb.rl Sb.cnt (Rc.sub l 1 59)))) := fun hg W A1 c1 h1 h2 =>
    sbparse_any A1 W.heap.size c1 _ W (Nat.le_refl _) h1 (Fr.sub59 l hg.2.1) h2
  have HI := Lib.hid (Sb.good_iff Sb.rl_reads Sb.counts x l)
  have HE : Hid (∀ s, Sb.good x l s → s = Sb.rd Sb.rl Sb.cnt (Rc.sub l 1 59)) := fun s h => (Sb.good_rd Sb.rl_reads Sb.counts h).symm
  have HX : Hid (Fr.good 3 0 x l → 0 ≤ x ∧ x < 1048576) := fun h => ⟨h.1.2.2.2.1, h.1.2.2.2.2⟩
  have HBL : Hid (∀ W, Below w.heap.size w W → Bs W B A l) := fun W hW => hb.out.below hW hB
  have HTB : Hid (∀ W, Below w.heap.size w W → TabW W ∧ 0 < W.heap.size) := fun W hW => ⟨ht.out.below hW hz, Nat.lt_of_lt_of_le hz hW.size⟩
  have HSL := Lib.hid hs
  clear hs hb ht hz
  unfold GotFr NoFr at HD
  generalize Rc.sub l 1 59 = p at *
  generalize Fr.good 3 0 x l = G at *
  generalize Sb.rd Sb.rl Sb.cnt p = D at *
  obtain ⟨d0, d1, d2, d3, d4, ⟨t0, t1, t2, t3⟩, ⟨h0, h1, h2, h3⟩, f⟩ := D
  unfold DecSb NoSb HasSb
  unfold GotSb at HPA
  have HS0 := Lib.hid (sd_new w #[.int .i64 0, .int .i64 0, .int .i64 0, .int .i64 0, .int .i64 0, .int .i64 0, .int .i64 0, .int .i64 0, .int .i64 0, .int .i64 0, .int .i64 0, .int .i64 0, .int .i64 0, .slice none 0 0] 27)
  go_enter Tryd.func8, Tryd.ntmps8
  go_wp2_with fail
  generalize w.alloc (.cells _ 27) = w0 at *
  refine (HD.out _ HS0.out.2).mono ?_
  rintro r w1 (⟨hg, A1, c1, rfl, hs1, hbs1, hb1⟩ | ⟨hg, rfl, hb1⟩)
  · have HS1 := Lib.hid (HS0.out.next hb1 (by rfl) (by rfl) (by rfl) (by rfl))
    have HP1 := Lib.hid (HPA.out hg w1 A1 c1 hs1 hbs1.bs)
    have HX1 := Lib.hid (HX.out hg)
    have HI1 : Hid ((∃ s, Sb.good x l s) ↔ Sb.valid ⟨d0, d1, d2, d3, d4, ⟨t0, t1, t2, t3⟩, ⟨h0, h1, h2, h3⟩, f⟩ ∧ Sb.enc x ⟨d0, d1, d2, d3, d4, ⟨t0, t1, t2, t3⟩, ⟨h0, h1, h2, h3⟩, f⟩ = l) := HI.out.trans ⟨fun h => h.2, fun h => ⟨hg, h⟩⟩
    clear hb1 hs1 hbs1 hg HPA HD HI HX
    go_wp2_with fail
    refine HP1.out.mono ?_
    rintro r w2 ⟨A2, n2, c2, rfl, hat2, hfr2, hb2⟩
    have HS2 := Lib.hid (HS1.out.next hb2 (by rfl) (by rfl) (by rfl) (by rfl))
    have HAT2 := Lib.hid hat2
    have HFR := Lib.hid hfr2
    clear hb2 hat2 hfr2
    have HS3 : Hid (Sd w w.heap.size _ (w2.alloc (.cells #[.int .i64 d0, .int .i64 d1, .int .i64 d2, .int .i64 d3, .int .i64 d4, .int .i64 t0, .int .i64 t1, .int .i64 t2, .int .i64 t3, .int .i64 h0, .int .i64 h1, .int .i64 h2, .int .i64 h3, .slice A2 n2 c2] 27))) := HS2.out.next ((Below.refl _ w2).alloc (Nat.le_refl _) _) rfl rfl rfl rfl
    have HN3 : Hid ((w2.alloc (.cells #[.int .i64 d0, .int .i64 d1, .int .i64 d2, .int .i64 d3, .int .i64 d4, .int .i64 t0, .int .i64 t1, .int .i64 t2, .int .i64 t3, .int .i64 h0, .int .i64 h1, .int .i64 h2, .int .i64 h3, .slice A2 n2 c2] 27)).heap[w2.heap.size]? = some (.cells #[.int .i64 d0, .int .i64 d1, .int .i64 d2, .int .i64 d3, .int .i64 d4, .int .i64 t0, .int .i64 t1, .int .i64 t2, .int .i64 t3, .int .i64 h0, .int .i64 h1, .int .i64 h2, .int .i64 h3, .slice A2 n2 c2] 27 (0, 0))) := heap_alloc_new _ _
    have HB23 : Hid (Below w2.heap.size w2 (w2.alloc (.cells #[.int .i64 d0, .int .i64 d1, .int .i64 d2, .int .i64 d3, .int .i64 d4, .int .i64 t0, .int .i64 t1, .int .i64 t2, .int .i64 t3, .int .i64 h0, .int .i64 h1, .int .i64 h2, .int .i64 h3, .slice A2 n2 c2] 27))) := (Below.refl _ w2).alloc (Nat.le_refl _) _
    go_upto_region 5 with fail
    generalize w2.alloc (.cells #[.int .i64 d0, .int .i64 d1, .int .i64 d2, .int .i64 d3, .int .i64 d4, .int .i64 t0, .int .i64 t1, .int .i64 t2, .int .i64 t3, .int .i64 h0, .int .i64 h1, .int .i64 h2, .int .i64 h3, .slice A2 n2 c2] 27) = w3 at *
    obtain ⟨z0, z1, z2, z3, z4, z5, z6, z7, z8, z9, z10, z11, z12, z13⟩ := cells14 HN3.out
    have HEN := Lib.hid (sbencode_any d0 d1 d2 d3 d4 t0 t1 t2 t3 h0 h1 h2 h3 x A2 w2.heap.size n2 c2 f w3 HB23.out.size HAT2.out.1 HAT2.out.2.1 (HAT2.out.2.2.below HB23.out (Nat.le_refl _)) (HTB.out _ HS3.out.2).1 (HTB.out _ HS3.out.2).2)
    unfold FrEnc at HEN
    go_wp2_with fail
    refine HEN.out.mono ?_
    rintro r w4 ⟨A4, n4, c4, rfl, hs4, hy4, -, hb4⟩
    have HS4 := Lib.hid (HS3.out.next hb4 (by rfl) (by rfl) (by rfl) (by rfl))
    have HN4 : Hid (w4.heap[w2.heap.size]? = some (.cells #[.int .i64 d0, .int .i64 d1, .int .i64 d2, .int .i64 d3, .int .i64 d4, .int .i64 t0, .int .i64 t1, .int .i64 t2, .int .i64 t3, .int .i64 h0, .int .i64 h1, .int .i64 h2, .int .i64 h3, .slice A2 n2 c2] 27 (0, 0))) := (hb4.block _ (Array.getElem?_eq_some_iff.1 HN3.out).1).trans HN3.out
    have HY4 := Lib.hid (And.intro hs4 hy4)
    have HB4 := Lib.hid hb4
    clear hs4 hy4 hb4 HEN z0 z1 z2 z3 z4 z5 z6 z7 z8 z9 z10 z11 z12 z13
    by_cases hv : Sb.valid ⟨d0, d1, d2, d3, d4, ⟨t0, t1, t2, t3⟩, ⟨h0, h1, h2, h3⟩, f⟩
    · have her : Sb.err ⟨d0, d1, d2, d3, d4, ⟨t0, t1, t2, t3⟩, ⟨h0, h1, h2, h3⟩, f⟩ x = 0 := by unfold Sb.err; rw [if_pos hv, if_pos HX1.out]
      rw [her] at HY4
      have hyy := HY4.out.2 rfl
      obtain ⟨e64, hown⟩ := hyy
      subst e64
      obtain ⟨A4', c4', e4', hbs4, -, -, -, -⟩ := own_bytes hown (Sb.enc_lt x ⟨d0, d1, d2, d3, d4, ⟨t0, t1, t2, t3⟩, ⟨h0, h1, h2, h3⟩, f⟩)
      injection e4' with e4' _ e5'
      subst e4' e5'
      have HI2 : Hid ((∃ s, Sb.good x l s) ↔ Sb.enc x ⟨d0, d1, d2, d3, d4, ⟨t0, t1, t2, t3⟩, ⟨h0, h1, h2, h3⟩, f⟩ = l) := HI1.out.trans ⟨fun h => h.2, fun h => ⟨hv, h⟩⟩
      have HEQ := Lib.hid (fun W (hW : Below w4.heap.size w4 W) => equal_any A A4 B w4.heap.size n c 64 c4 l (Sb.enc x ⟨d0, d1, d2, d3, d4, ⟨t0, t1, t2, t3⟩, ⟨h0, h1, h2, h3⟩, f⟩) W (fun e => (HSL.out.1 e).2) (fun e => (HY4.out.1.1 e).2) hl.out (Sb.enc_length x ⟨d0, d1, d2, d3, d4, ⟨t0, t1, t2, t3⟩, ⟨h0, h1, h2, h3⟩, f⟩) (HBL.out W (HS4.out.2.trans (hW.mono HS4.out.2.size))) (hbs4.below hW (Nat.le_refl _)))
      rw [her]
      clear hown hbs4 HI1 HY4 her
      by_cases hq : l = Sb.enc x ⟨d0, d1, d2, d3, d4, ⟨t0, t1, t2, t3⟩, ⟨h0, h1, h2, h3⟩, f⟩
      · rw [decide_eq_true hq] at HEQ
        have HOK := Lib.hid (HI2.out.2 hq.symm)
        clear HI2 hq
        go_upto_region 8 with (go_at_call 32; refine (HEQ.out _ (Below.refl _ _)).mono ?_; rintro r w' ⟨rfl, rfl⟩)
        obtain ⟨z0, z1, z2, z3, z4, z5, z6, z7, z8, z9, z10, z11, z12, z13⟩ := cells14 HN4.out
        obtain ⟨y0, y1, y2, y3, y4, y5, y6, y7, y8, y9, y10, y11, y12, y13⟩ := cells14 HS4.out.1
        obtain ⟨fz0, fz1, fz2, fz3, fz4, fz5, fz6, fz7, fz8, fz9, fz10, fz11, fz12, fz13⟩ := frozen14 HS4.out.1
        go_wp2_with fail
        (try simp only [Exit.inBlock, Exit.then])
        refine bodyPost_ret (results_row2 rfl _ _ w.heap.size _ _ (0, 0) _ rfl (stored14 HS4.out.1) Tryd.underlying27 rfl (by kernel_rfl)) rfl ?_
        have HGR := stored14_grown w' w.heap.size (.int .i64 d0) (.int .i64 d1) (.int .i64 d2) (.int .i64 d3) (.int .i64 d4) (.int .i64 t0) (.int .i64 t1) (.int .i64 t2) (.int .i64 t3) (.int .i64 h0) (.int .i64 h1) (.int .i64 h2) (.int .i64 h3) (.slice A2 n2 c2)
        obtain ⟨s, hs⟩ := HOK.out
        obtain rfl := HE.out s hs
        refine .inl ⟨_, hs, A2, n2, c2, rfl, ⟨?_, fun ad e => Nat.le_trans HS1.out.2.size (HFR.out ad e)⟩, HS4.out.2.trans (below_of_grown HGR (Nat.le_refl _) HS4.out.2.size)⟩
        refine (((HAT2.out.below HB23.out (Nat.le_refl _)).below HB4.out HB23.out.size).grown HGR (fun k hk ad e => ?_)).own
        have := HFR.out ad e
        have := (Array.getElem?_eq_some_iff.1 HS1.out.1).1
        omega
      · rw [decide_eq_false hq] at HEQ
        have HOK : Hid (¬ ∃ s, Sb.good x l s) := fun h => hq (HI2.out.1 h).symm
        clear HI2 hq
        go_upto_region 7 with (go_at_call 32; refine (HEQ.out _ (Below.refl _ _)).mono ?_; rintro r w' ⟨rfl, rfl⟩)
        obtain ⟨y0, y1, y2, y3, y4, y5, y6, y7, y8, y9, y10, y11, y12, y13⟩ := cells14 HS4.out.1
        obtain ⟨fz0, fz1, fz2, fz3, fz4, fz5, fz6, fz7, fz8, fz9, fz10, fz11, fz12, fz13⟩ := frozen14 HS4.out.1
        go_wp2_with fail
        (try simp only [Exit.inBlock, Exit.then])
        refine bodyPost_ret (results_row2 rfl _ _ w.heap.size _ _ (0, 0) _ rfl (stored14 HS4.out.1) Tryd.underlying27 rfl (by kernel_rfl)) rfl ?_
        exact .inr ⟨HOK.out, rfl, HS4.out.2.trans (below_of_grown (stored14_grown w' w.heap.size (.int .i64 0) (.int .i64 0) (.int .i64 0) (.int .i64 0) (.int .i64 0) (.int .i64 0) (.int .i64 0) (.int .i64 0) (.int .i64 0) (.int .i64 0) (.int .i64 0) (.int .i64 0) (.int .i64 0) (.slice none 0 0)) (Nat.le_refl _) HS4.out.2.size)⟩
    · have her : Sb.err ⟨d0, d1, d2, d3, d4, ⟨t0, t1, t2, t3⟩, ⟨h0, h1, h2, h3⟩, f⟩ x = 4 := by unfold Sb.err; rw [if_neg hv]
      have HOK : Hid (¬ ∃ s, Sb.good x l s) := fun h => hv (HI1.out.1 h).1
      rw [her]
      clear HI1 HY4 her hv
      obtain ⟨y0, y1, y2, y3, y4, y5, y6, y7, y8, y9, y10, y11, y12, y13⟩ := cells14 HS4.out.1
      obtain ⟨fz0, fz1, fz2, fz3, fz4, fz5, fz6, fz7, fz8, fz9, fz10, fz11, fz12, fz13⟩ := frozen14 HS4.out.1
      go_wp2_with fail
      (try simp only [Exit.inBlock, Exit.then])
      refine bodyPost_ret (results_row2 rfl _ _ w.heap.size _ _ (0, 0) _ rfl (stored14 HS4.out.1) Tryd.underlying27 rfl (by kernel_rfl)) rfl ?_
      exact .inr ⟨HOK.out, rfl, HS4.out.2.trans (below_of_grown (stored14_grown w4 w.heap.size (.int .i64 0) (.int .i64 0) (.int .i64 0) (.int .i64 0) (.int .i64 0) (.int .i64 0) (.int .i64 0) (.int .i64 0) (.int .i64 0) (.int .i64 0) (.int .i64 0) (.int .i64 0) (.int .i64 0) (.slice none 0 0)) (Nat.le_refl _) HS4.out.2.size)⟩
  · have HS1 := Lib.hid (HS0.out.next hb1 (by rfl) (by rfl) (by rfl) (by rfl))
    have HF : Hid (¬ ∃ s, Sb.good x l s) := fun h => hg (HI.out.1 h).1
    clear hb1 hg
    obtain ⟨y0, y1, y2, y3, y4, y5, y6, y7, y8, y9, y10, y11, y12, y13⟩ := cells14 HS1.out.1
    obtain ⟨fz0, fz1, fz2, fz3, fz4, fz5, fz6, fz7, fz8, fz9, fz10, fz11, fz12, fz13⟩ := frozen14 HS1.out.1
    go_wp2_with fail
    (try simp only [Exit.inBlock, Exit.then])
    refine bodyPost_ret (results_row2 rfl _ _ w.heap.size _ _ (0, 0) _ rfl (stored14 HS1.out.1) Tryd.underlying27 rfl (by kernel_rfl)) rfl ?_
    exact .inr ⟨HF.out, rfl, HS1.out.2.trans (below_of_grown (stored14_grown w1 w.heap.size (.int .i64 0) (.int .i64 0) (.int .i64 0) (.int .i64 0) (.int .i64 0) (.int .i64 0) (.int .i64 0) (.int .i64 0) (.int .i64 0) (.int .i64 0) (.int .i64 0) (.int .i64 0) (.int .i64 0) (.slice none 0 0)) (Nat.le_refl _) HS1.out.2.size)⟩
end Go.Proofs.YtcjnhemlkahgoaaDoor
