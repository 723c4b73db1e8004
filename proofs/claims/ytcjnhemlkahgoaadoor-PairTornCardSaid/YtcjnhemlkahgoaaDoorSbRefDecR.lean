/-
  The walk of the reference's Decode of superblocks where the number of foreign layouts reads ≥ 2.
-/
import Derived.Test.YtcjnhemlkahgoaaDoorSbRefDecW
namespace Go.Proofs.YtcjnhemlkahgoaaDoor
open Go.RowKit
set_option maxHeartbeats 16000000 in
theorem refsbdec_r (x : Int) (A : Option Addr) (B n c : Nat) (l : List Nat) (w : World) (hB : B ≤ w.heap.size) (hs : SlIs A n c) (hl : Hid (l.length = n)) (hb : Hid (Bs w B A l)) (hn : n ≤ 140737488355328) (hk35 : Hid ((Rc.sub l 1 59).getD 35 0 ≥ 2)) :
    Calls Tryd.prog 9 #[.slice A n c, .int .i64 x] w (DecSb w x l) := by
  have HD : Hid (∀ W, Below w.heap.size w W → Calls Tryd.prog 33 #[.int .i64 3, .int .i64 0, .int .i64 x, .slice A n c] W fun e w' => (Fr.good 3 0 x l ∧ GotFr W (Rc.sub l 1 59) e w') ∨ (¬ Fr.good 3 0 x l ∧ NoFr W e w')) := fun W hW =>
    reffrdec_any 3 0 x A B n c l W (by decide) (Nat.le_trans hB hW.size) hs hl (hb.out.below hW hB)
  have HI := Lib.hid (Sb.good_iff Sb.rl2_reads Sb.counts2 x l)
  have HE : Hid (∀ s, Sb.good x l s → s = Sb.rd Sb.rl2 Sb.cnt2 (Rc.sub l 1 59)) := fun s h => (Sb.good_rd Sb.rl2_reads Sb.counts2 h).symm
  have HX : Hid (Fr.good 3 0 x l → (0 ≤ x ∧ x < 1048576) ∧ (Rc.sub l 1 59).length = 59) := fun h => ⟨⟨h.1.2.2.2.1, h.1.2.2.2.2⟩, Fr.sub59 l h.2.1⟩
  have HBL : Hid (∀ W, Below w.heap.size w W → Bs W B A l) := fun W hW => hb.out.below hW hB
  have HLN := Lib.hid hl.out
  clear hs hb
  unfold GotFr NoFr at HD
  have HRD : Hid (∀ q, q = Rc.sub l 1 59 → q.length = 59 → Sb.rd Sb.rl2 Sb.cnt2 q = ⟨(Wire.num (q.take 5) : Int), (q.getD 5 0 : Int), (Wire.num ((q.drop 6).take 4) : Int), (Wire.num ((q.drop 10).take 6) : Int), (Wire.num ((q.drop 16).take 5) : Int), Sb.rl2 ((q.drop 21).take 7), Sb.rl2 ((q.drop 28).take 7), [Sb.rl2 ((q.drop 28).take 7), Sb.rl2 ((q.drop 36).take 7)].take (Sb.cnt2 (q.getD 35 0))⟩) := fun q _ hq => by
    unfold Sb.rd
    rw [num_at q 5 (by omega), num_at q 35 (by omega), rl2_take, rl2_take, rl2_take]
  generalize Rc.sub l 1 59 = p at *
  replace HRD := Lib.hid (HRD.out p rfl)
  generalize Fr.good 3 0 x l = G at *
  generalize hdd : Sb.rd Sb.rl2 Sb.cnt2 p = D at *
  clear hdd
  unfold DecSb NoSb HasSb
  have HS0 := Lib.hid (sd_new w #[.int .i64 0, .int .i64 0, .int .i64 0, .int .i64 0, .int .i64 0, .int .i64 0, .int .i64 0, .int .i64 0, .int .i64 0, .int .i64 0, .int .i64 0, .int .i64 0, .int .i64 0, .slice none 0 0] 27)
  set_option maxRecDepth 100000 in go_enter Tryd.func9, Tryd.ntmps9
  go_wp2_with fail
  generalize w.alloc (.cells _ 27) = w0 at *
  refine (HD.out _ HS0.out.2).mono ?_
  rintro r w1 (⟨hg, A1, c1, rfl, hs1, hbs1, hb1⟩ | ⟨hg, rfl, hb1⟩)
  · have HS1 := Lib.hid (HS0.out.next hb1 (by rfl) (by rfl) (by rfl) (by rfl))
    obtain ⟨hx, hpl⟩ := HX.out hg
    have HX1 := Lib.hid hx
    have hD := HRD.out hpl
    have HI0 : Hid ((∃ s, Sb.good x l s) ↔ Sb.valid D ∧ Sb.enc x D = l) := HI.out.trans ⟨fun h => h.2, fun h => ⟨hg, h⟩⟩
    obtain ⟨ad, rfl⟩ : ∃ ad, A1 = some ad := by
      cases A1 with
      | none => have := hs1.1 rfl; omega
      | some ad => exact ⟨ad, rfl⟩
    have hbp := hbs1.bs
    have hc59 : 59 ≤ c1 := hs1.2.1
    have hc63 := hs1.2.2
    have hplt := hbp.lt
    obtain ⟨q5, k5⟩ := cell_byte hbp 5 (by omega)
    obtain ⟨q35, k35⟩ := cell_byte hbp 35 (by omega)
    rw [add_pos ad 5 (by decide)] at k5
    rw [add_pos ad 35 (by decide)] at k35
    have HLT : Hid (ad.block < w1.heap.size) := by
      obtain ⟨-, ad', e, h, -⟩ := hbp 0 (by omega)
      injection e with e
      subst e
      exact h
    have HBP : Hid (∀ W, Below w1.heap.size w1 W → Bs W w1.heap.size (some ad) p) := fun W hW => hbp.below hW (Nat.le_refl _)
    obtain ⟨nm, hnm⟩ : ∃ nm : Nat → Nat → Nat, ∀ i k, nm i k = Wire.num ((p.drop i).take (min k 6)) := ⟨_, fun _ _ => rfl⟩
    have hq : ∀ i k, nm i k < 281474976710656 := fun i k => by
      rw [hnm]
      exact num6 (p.drop i) (min k 6) (by omega) (fun y hy => hplt y (List.mem_of_mem_drop hy))
    have ewn : ∀ i k, IntKind.i64.wrap ((nm i k : Nat) : Int) = ((nm i k : Nat) : Int) := fun i k => wrap_small642 _ (hq i k)
    have NU0 : Hid (∀ W, Below w1.heap.size w1 W → Calls Tryd.prog 34 #[.slice (some ad) 5 c1] W fun e w' => e = .returned (.int .u64 (nm 0 5 : Int)) ∧ W = w') := fun W hW => by
      rw [hnm]
      exact refnum_any _ w1.heap.size 5 c1 _ W (by show _ = _; rw [List.length_take, List.length_drop]; omega) (by decide) ((HBP.out W hW).take 5)
    have NU : Hid (∀ (i k : Nat) (W : World), 0 < i ∧ i + k ≤ 59 ∧ k ≤ 6 → Below w1.heap.size w1 W → Calls Tryd.prog 34 #[.slice (some ⟨ad.block, ad.off + i, none⟩) k (c1 - i)] W fun e w' => e = .returned (.int .u64 (nm i k : Int)) ∧ W = w') := fun i k W hi hW => by
      rw [hnm, Nat.min_eq_left hi.2.2]
      exact refnum_any _ w1.heap.size k (c1 - i) _ W (by show _ = _; rw [List.length_take, List.length_drop]; omega) (by omega) (part_bs2 (HBP.out W hW) i k hi.1)
    have RD : Hid (∀ (i : Nat) (W : World), 0 < i ∧ i + 7 ≤ 59 → Below w1.heap.size w1 W → Calls Tryd.prog 35 #[.slice (some ⟨ad.block, ad.off + i, none⟩) 7 (c1 - i)] W fun r w' => r = .returned (.agg #[.int .i64 (Sb.rl2 ((p.drop i).take 7)).id, .int .i64 (Sb.rl2 ((p.drop i).take 7)).ver, .int .i64 (Sb.rl2 ((p.drop i).take 7)).rs, .int .i64 (Sb.rl2 ((p.drop i).take 7)).reg]) ∧ Below W.heap.size W w') := fun i W hi hW =>
      sbread_any ⟨ad.block, ad.off + i, none⟩ w1.heap.size (c1 - i) _ W hW.size (by omega) (by omega) (by rw [List.length_take, List.length_drop]; omega) (part_bs2 (HBP.out W hW) i 7 hi.1)
    have R1 := Lib.hid (fun W hW => RD.out 21 W (by decide) hW)
    have R2 := Lib.hid (fun W hW => RD.out 28 W (by decide) hW)
    have R3 := Lib.hid (fun W hW => RD.out 36 W (by decide) hW)
    rw [show Wire.num (p.take 5) = nm 0 5 by rw [hnm]; rfl, show Wire.num ((p.drop 6).take 4) = nm 6 4 by rw [hnm]; rfl, show Wire.num ((p.drop 10).take 6) = nm 10 6 by rw [hnm]; rfl, show Wire.num ((p.drop 16).take 5) = nm 16 5 by rw [hnm]; rfl] at hD
    generalize p.getD 5 0 = b5 at *
    generalize p.getD 35 0 = k at *
    obtain ⟨t0, t1, t2, t3, hT⟩ : ∃ a b c d, Sb.rl2 ((p.drop 21).take 7) = ⟨a, b, c, d⟩ := ⟨_, _, _, _, rfl⟩
    obtain ⟨h0, h1, h2, h3, hH⟩ : ∃ a b c d, Sb.rl2 ((p.drop 28).take 7) = ⟨a, b, c, d⟩ := ⟨_, _, _, _, rfl⟩
    obtain ⟨f0, f1, f2, f3, hF⟩ : ∃ a b c d, Sb.rl2 ((p.drop 36).take 7) = ⟨a, b, c, d⟩ := ⟨_, _, _, _, rfl⟩
    rw [hT] at R1 hD
    rw [hH] at R2 hD
    rw [hF] at R3 hD
    generalize hff : List.take (Sb.cnt2 k) [Sb.L.mk h0 h1 h2 h3, Sb.L.mk f0 f1 f2 f3] = f at hD
    have HFF := Lib.hid hff
    have HDD := Lib.hid hD
    have HCB : Hid (∀ W, Below w1.heap.size w1 W → W.cell? ⟨ad.block, ad.off + 5, none⟩ = some (.int .u8 (b5 : Int)) ∧ W.cell? ⟨ad.block, ad.off + 35, none⟩ = some (.int .u8 (k : Int))) := fun W hW => by
      have kc : ∀ o v, w1.cell? ⟨ad.block, o, none⟩ = some v → W.cell? ⟨ad.block, o, none⟩ = some v := fun o v h => (hW.cell (show (Addr.mk ad.block o none).block < _ from HLT.out)).trans h
      exact ⟨kc _ _ k5, kc _ _ k35⟩
    have eb5 := wrap_byte b5 q5
    have HK256 := Lib.hid q35
    have HRZ0 := Lib.hid (fun o : Unit => True.intro)
    clear HRZ0 hbs1 hs1 hb1 hg HD HI HX HRD hD hff hT hH hF hbp hplt hnm hq k5 k35 q5 q35 hpl hx RD
    simp only at R1 R2 R3
    have i6 : (6 : Int) ≤ (c1 : Int) := by omega
    have i10 : (10 : Int) ≤ (c1 : Int) := by omega
    have i16 : (16 : Int) ≤ (c1 : Int) := by omega
    have i21 : (21 : Int) ≤ (c1 : Int) := by omega
    have i28 : (28 : Int) ≤ (c1 : Int) := by omega
    have i35 : (35 : Int) ≤ (c1 : Int) := by omega
    have i43 : (43 : Int) ≤ (c1 : Int) := by omega
    have i5 : (5 : Int) ≤ (c1 : Int) := by omega
    have jj6 : c1 ≠ 6 := by omega
    have jj10 : c1 ≠ 10 := by omega
    have jj16 : c1 ≠ 16 := by omega
    have jj21 : c1 ≠ 21 := by omega
    have jj28 : c1 ≠ 28 := by omega
    have jj36 : c1 ≠ 36 := by omega
    go_upto_region 4 with fail
    go_cut [8] (fun s wx => ∃ gs, s = .pointer (some ⟨gs, 0, none⟩) ∧ Hid (Rz w1 gs #[.int .i64 (nm 0 5 : Int), .int .i64 (b5 : Int), .int .i64 (nm 6 4 : Int), .int .i64 (nm 10 6 : Int), .int .i64 (nm 16 5 : Int), .int .i64 t0, .int .i64 t1, .int .i64 t2, .int .i64 t3, .int .i64 h0, .int .i64 h1, .int .i64 h2, .int .i64 h3, .slice none 0 0] wx))
    case first =>
      have B0 := Lib.hid (Below.refl w1.heap.size w1).drew
      have Z0 := Lib.hid (rz_made (Below.refl w1.heap.size w1) #[.int .i64 0, .int .i64 0, .int .i64 0, .int .i64 0, .int .i64 0, .int .i64 0, .int .i64 0, .int .i64 0, .int .i64 0, .int .i64 0, .int .i64 0, .int .i64 0, .int .i64 0, .slice none 0 0]).drew
      obtain ⟨c5, -⟩ := HCB.out _ B0.out
      have Nd0 := Lib.hid (NU0.out _ B0.out)
      have Nz0 := Lib.hid (NU0.out _ Z0.out.below)
      have Nd6 := Lib.hid (NU.out 6 4 _ (by decide) B0.out)
      have Nz6 := Lib.hid (NU.out 6 4 _ (by decide) Z0.out.below)
      have Nd10 := Lib.hid (NU.out 10 6 _ (by decide) B0.out)
      have Nz10 := Lib.hid (NU.out 10 6 _ (by decide) Z0.out.below)
      have Nd16 := Lib.hid (NU.out 16 5 _ (by decide) B0.out)
      have Nz16 := Lib.hid (NU.out 16 5 _ (by decide) Z0.out.below)
      have R1d := Lib.hid (R1.out _ B0.out)
      have R1z := Lib.hid (R1.out _ Z0.out.below)
      go_region_held3 (fun W => W.cell? ⟨ad.block, ad.off + 5, none⟩ = some (.int .u8 (b5 : Int)))
        (first
          | (revert Z2; intro Z2; with_reducible exact (HCB.out _ Z2.out.stored.below).1)
          | (revert Z2; intro Z2; with_reducible exact (HCB.out _ Z2.out.below).1)
          | (revert B2; intro B2; with_reducible exact (HCB.out _ (rz_made B2.out _).below).1)
          | (revert B2; intro B2; with_reducible exact (HCB.out _ B2.out).1)
          | (revert Z1; intro Z1; with_reducible exact (HCB.out _ Z1.out.below).1)
          | (revert B1; intro B1; with_reducible exact (HCB.out _ (rz_made B1.out _).below).1)
          | (revert B1; intro B1; with_reducible exact (HCB.out _ B1.out).1)
          | (with_reducible exact (HCB.out _ Z0.out.below).1)
          | (with_reducible exact (HCB.out _ B0.out).1))
        (first
          | (go_at_call 34; first
              | ((with_reducible refine Nd0.out.mono ?_); rintro e w' ⟨rfl, rfl⟩)
              | ((with_reducible refine Nz0.out.mono ?_); rintro e w' ⟨rfl, rfl⟩)
              | ((with_reducible refine Nd6.out.mono ?_); rintro e w' ⟨rfl, rfl⟩)
              | ((with_reducible refine Nz6.out.mono ?_); rintro e w' ⟨rfl, rfl⟩)
              | ((with_reducible refine Nd10.out.mono ?_); rintro e w' ⟨rfl, rfl⟩)
              | ((with_reducible refine Nz10.out.mono ?_); rintro e w' ⟨rfl, rfl⟩)
              | ((with_reducible refine Nd16.out.mono ?_); rintro e w' ⟨rfl, rfl⟩)
              | ((with_reducible refine Nz16.out.mono ?_); rintro e w' ⟨rfl, rfl⟩))
          | (go_at_call 35; revert Z1; intro Z1; ((with_reducible refine (R2.out _ Z1.out.below).mono ?_); rintro r v ⟨rfl, hb⟩; have Z2 := Lib.hid (Z1.out.next hb); clear hb; obtain ⟨x0, x1, x2, x3, x4, x5, x6, x7, x8, x9, x10, x11, x12, x13⟩ := cells14 Z2.out.row; obtain ⟨fz0, fz1, fz2, fz3, fz4, fz5, fz6, fz7, fz8, fz9, fz10, fz11, fz12, fz13⟩ := frozen14 Z2.out.row))
          | (go_at_call 35; revert B1; intro B1; first
              | ((with_reducible refine (R2.out _ (rz_made B1.out #[.int .i64 0, .int .i64 0, .int .i64 0, .int .i64 0, .int .i64 0, .int .i64 0, .int .i64 0, .int .i64 0, .int .i64 0, .int .i64 0, .int .i64 0, .int .i64 0, .int .i64 0, .slice none 0 0]).below).mono ?_); rintro r v ⟨rfl, hb⟩; have Z2 := Lib.hid ((rz_made B1.out #[.int .i64 0, .int .i64 0, .int .i64 0, .int .i64 0, .int .i64 0, .int .i64 0, .int .i64 0, .int .i64 0, .int .i64 0, .int .i64 0, .int .i64 0, .int .i64 0, .int .i64 0, .slice none 0 0]).next hb); clear hb; obtain ⟨x0, x1, x2, x3, x4, x5, x6, x7, x8, x9, x10, x11, x12, x13⟩ := cells14 Z2.out.row; obtain ⟨fz0, fz1, fz2, fz3, fz4, fz5, fz6, fz7, fz8, fz9, fz10, fz11, fz12, fz13⟩ := frozen14 Z2.out.row)
              | ((with_reducible refine (R2.out _ B1.out).mono ?_); rintro r v ⟨rfl, hb⟩; have B2 := Lib.hid (B1.out.trans (hb.mono B1.out.size)); clear hb))
          | (go_at_call 35; first
              | ((with_reducible refine R1z.out.mono ?_); rintro r v ⟨rfl, hb⟩; have Z1 := Lib.hid (Z0.out.next hb); clear hb)
              | ((with_reducible refine R1d.out.mono ?_); rintro r v ⟨rfl, hb⟩; have B1 := Lib.hid (B0.out.trans (hb.mono B0.out.size)); clear hb)))
      all_goals
        (try go_wp2_with fail)
        go_meet
        first
          | exact ⟨_, rfl, Z2.out.stored⟩
          | exact ⟨_, rfl, rz_made B2.out _⟩
    case rest =>
      obtain ⟨gs, rfl, HV⟩ := hcut
      generalize wc = w4 at *
      have hDD := HDD.out
      subst hDD
      have HSW : Hid (∀ W, Below w1.heap.size w1 W → Sd w w.heap.size (.cells #[.int .i64 0, .int .i64 0, .int .i64 0, .int .i64 0, .int .i64 0, .int .i64 0, .int .i64 0, .int .i64 0, .int .i64 0, .int .i64 0, .int .i64 0, .int .i64 0, .int .i64 0, .slice none 0 0] 27 (0, 0)) W) := fun W hW => HS1.out.next hW rfl rfl rfl rfl
      have HLW : Hid (w.heap.size < w1.heap.size) := (Array.getElem?_eq_some_iff.1 HS1.out.1).1
      have HGS : Hid (gs < w4.heap.size) := (Array.getElem?_eq_some_iff.1 HV.out.row).1
      clear NU NU0 R1 R2 HLT HBP ewn eb5 HDD i5 i6 i10 i16 i21 i28 jj6 jj10 jj16 jj21 jj28 HS0
      obtain ⟨-, c35⟩ := HCB.out _ HV.out.below
      by_cases e0 : k = 0
      · exact absurd hk35.out (by omega)
      by_cases e1 : k = 1
      · exact absurd hk35.out (by omega)
      · have hk2 : 2 ≤ k := by omega
        obtain rfl : f = [⟨h0, h1, h2, h3⟩, ⟨f0, f1, f2, f3⟩] := by
          rw [← HFF.out]
          unfold Sb.cnt2
          rw [Nat.min_eq_right hk2]
          rfl
        have d1 : decide ((1 : Int) ≤ (k : Int)) = true := decide_eq_true (by omega)
        have d2 : decide ((2 : Int) ≤ (k : Int)) = true := decide_eq_true (by omega)
        have d1' : decide (1 ≤ k) = true := decide_eq_true (by omega)
        have d2' : decide (2 ≤ k) = true := decide_eq_true (by omega)
        have d1n : 1 ≤ k := by omega
        clear HFF e0 e1
        have HVA := HV.out.alloc (.cells #[.int .i64 h0, .int .i64 h1, .int .i64 h2, .int .i64 h3] 24)
        have HW : Hid (Rz w1 gs #[.int .i64 (nm 0 5 : Int), .int .i64 (b5 : Int), .int .i64 (nm 6 4 : Int), .int .i64 (nm 10 6 : Int), .int .i64 (nm 16 5 : Int), .int .i64 t0, .int .i64 t1, .int .i64 t2, .int .i64 t3, .int .i64 h0, .int .i64 h1, .int .i64 h2, .int .i64 h3, .slice (some ⟨w4.heap.size, 0, none⟩) 1 1] ((w4.alloc (.cells #[.int .i64 h0, .int .i64 h1, .int .i64 h2, .int .i64 h3] 24)).setCell ⟨gs, 13, none⟩ (.slice (some ⟨w4.heap.size, 0, none⟩) 1 1))) := HVA.last
        have HBK : Hid (((w4.alloc (.cells #[.int .i64 h0, .int .i64 h1, .int .i64 h2, .int .i64 h3] 24)).setCell ⟨gs, 13, none⟩ (.slice (some ⟨w4.heap.size, 0, none⟩) 1 1)).heap[w4.heap.size]? = some (.cells #[.int .i64 h0, .int .i64 h1, .int .i64 h2, .int .i64 h3] 24 (0, 0))) := ((grown_set _ gs 13 _).block _ (by simp) (fun e => by injection e with e; have := HGS.out; omega)).trans (heap_alloc_new _ _)
        have HZ5 : Hid (w4.heap.size < ((w4.alloc (.cells #[.int .i64 h0, .int .i64 h1, .int .i64 h2, .int .i64 h3] 24)).setCell ⟨gs, 13, none⟩ (.slice (some ⟨w4.heap.size, 0, none⟩) 1 1)).heap.size) := (Array.getElem?_eq_some_iff.1 HBK.out).1
        have fz := frozen_at HVA.row 13
        obtain ⟨-, -, -, -, -, -, -, -, -, -, -, -, -, fc⟩ := cells14 HVA.row
        obtain ⟨-, k35⟩ := HCB.out _ HW.out.below
        clear HVA
        obtain ⟨x0, x1, x2, x3, x4, x5, x6, x7, x8, x9, x10, x11, x12, x13⟩ := cells14 HV.out.row
        go_upto_region 8 with fail
        clear x0 x1 x2 x3 x4 x5 x6 x7 x8 x9 x10 x11 x12 x13 fz fc c35
        generalize (w4.alloc (.cells #[.int .i64 h0, .int .i64 h1, .int .i64 h2, .int .i64 h3] 24)).setCell ⟨gs, 13, none⟩ (.slice (some ⟨w4.heap.size, 0, none⟩) 1 1) = w5 at *
        have HG5 : Hid (gs < w4.heap.size ∧ w1.heap.size ≤ w4.heap.size) := ⟨HGS.out, HV.out.below.size⟩
        have HWd := Lib.hid HW.out.drew
        have HBd : Hid (w5.drew.heap[w4.heap.size]? = some (.cells #[.int .i64 h0, .int .i64 h1, .int .i64 h2, .int .i64 h3] 24 (0, 0))) := HBK.out
        have R3d := Lib.hid (R3.out _ HWd.out.below)
        obtain ⟨i0, hi0, hz0, hz1, hz2⟩ := info_partsL infoL
        have I0 := Lib.hid (And.intro hi0 (And.intro hz0 (And.intro hz1 hz2)))
        have HMX : Hid (1 + 1 ≤ maxLen ∧ (1 + 1) * 32 ≤ 140737488355328) := ⟨by decide, by decide⟩
        have HNW : Hid (∀ (W : World) (ad' : Addr), some (⟨W.heap.size, 0, none⟩ : Addr) = some ad' → ∀ j u, [Value.int .i64 f0, .int .i64 f1, .int .i64 f2, .int .i64 f3][j]? = some u → (W.alloc (.cells #[.int .i64 f0, .int .i64 f1, .int .i64 f2, .int .i64 f3] 24)).cell? (ad'.add j) = some u) := fun W ad' e => by injection e with e; subst e; exact World.news_of_block (heap_alloc_new W _)
        have HOW : Hid (∀ (W : World), W.heap[w4.heap.size]? = some (.cells #[.int .i64 h0, .int .i64 h1, .int .i64 h2, .int .i64 h3] 24 (0, 0)) → (W.alloc (.cells #[.int .i64 f0, .int .i64 f1, .int .i64 f2, .int .i64 f3] 24)).ownsRow w4.heap.size 24 4 (.slice (some ⟨w4.heap.size, 0, none⟩) 1 1) 1 [.int .i64 h0, .int .i64 h1, .int .i64 h2, .int .i64 h3]) := fun W hW => own_at ((heap_alloc_old _ _ (Array.getElem?_eq_some_iff.1 hW).1).trans hW) (Nat.le_refl _)
        have HLE : Hid (∀ (W : World), W.heap[w4.heap.size]? = some (.cells #[.int .i64 h0, .int .i64 h1, .int .i64 h2, .int .i64 h3] 24 (0, 0)) → w4.heap.size ≤ (W.alloc (.cells #[.int .i64 f0, .int .i64 f1, .int .i64 f2, .int .i64 f3] 24)).heap.size) := fun W hW => Nat.le_trans (Nat.le_of_lt (Array.getElem?_eq_some_iff.1 hW).1) (by simp)
        have h1c : ∀ u ∈ [Value.int .i64 f0, .int .i64 f1, .int .i64 f2, .int .i64 f3], u.oneCell' = true := fun u hu => by
          simp at hu
          rcases hu with rfl | rfl | rfl | rfl <;> rfl
        have H1C := Lib.hid h1c
        obtain ⟨-, -, -, -, -, -, -, -, -, -, -, -, -, x13⟩ := cells14 HW.out.row
        refine wp_region_gated 8 (fun W => W.cell? ⟨gs, 13, none⟩ = some (.slice (some ⟨w4.heap.size, 0, none⟩) 1 1)) (by kernel_rfl) ?_
        change Gated _ _ _ _ 8 _ 9 #[false, false, false, false, false, false, false, false, false] _ w5.drew
        have HSD : w5.drew.cell? ⟨gs, 13, none⟩ = some (.slice (some ⟨w4.heap.size, 0, none⟩) 1 1) := HWd.out.slice
        refine Gated.take (i := 0) (v := ?_) (d := some 57) rfl rfl (by kernel_rfl) (by kernel_rfl) (by kernel_rfl) (fun _ _ _ h => h) rfl (fun _ => HSD) ⟨by rfl, fun w => ?_⟩ ?_
        rotate_left
        · (go_simp; all_goals with_reducible rfl)
        simp only [Act.put, List.setIfInBounds_toArray, List.set_cons_zero, List.set_cons_succ]
        refine Gated.load (i := 1) (v := ?_) (d := some 58) rfl rfl (by kernel_rfl) (by kernel_rfl) (by kernel_rfl) (fun _ _ _ h => h) rfl (by kernel_rfl) (by kernel_rfl) HSD ⟨by rfl, fun w hSw => ?_⟩ ?_
        rotate_left
        · (go_simp; all_goals with_reducible rfl)
        simp only [Act.put, List.setIfInBounds_toArray, List.set_cons_zero, List.set_cons_succ]
        refine Gated.take (i := 2) (v := ?_) (d := some 59) rfl rfl (by kernel_rfl) (by kernel_rfl) (by kernel_rfl) (fun _ _ _ h => h) rfl (fun _ => HSD) ⟨by rfl, fun w => ?_⟩ ?_
        rotate_left
        · (go_simp; all_goals with_reducible rfl)
        simp only [Act.put, List.setIfInBounds_toArray, List.set_cons_zero, List.set_cons_succ]
        refine Gated.take (i := 3) (v := ?_) (d := some 60) rfl rfl (by kernel_rfl) (by kernel_rfl) (by kernel_rfl) (fun _ _ _ h => h) rfl (fun _ => HSD) ⟨by rfl, fun w => ?_⟩ ?_
        rotate_left
        · (go_simp; all_goals with_reducible rfl)
        simp only [Act.put, List.setIfInBounds_toArray, List.set_cons_zero, List.set_cons_succ]
        refine Gated.go (i := 4) rfl (by kernel_rfl) (by rfl) (fun K hK => ?_)
        go_simp
        refine R3d.out.mono ?_
        rintro r w7 ⟨rfl, hb⟩
        have R7 := Lib.hid (HWd.out.next hb)
        have HB7 : Hid (w7.heap[w4.heap.size]? = some (.cells #[.int .i64 h0, .int .i64 h1, .int .i64 h2, .int .i64 h3] 24 (0, 0))) := (hb.block _ (Array.getElem?_eq_some_iff.1 HBd.out).1).trans HBd.out
        clear hb
        refine hK _ _ R7.out.slice ?_
        clear hK K HSD
        simp only [List.setIfInBounds_toArray, List.set_cons_zero, List.set_cons_succ]
        refine Gated.go (i := 5) rfl (by kernel_rfl) (by rfl) (fun K hK => ?_)
        go_simp
        refine hK _ _ (R7.out.alloc _).slice ?_
        clear hK K
        simp only [List.setIfInBounds_toArray, List.set_cons_zero, List.set_cons_succ]
        refine Gated.go (i := 6) rfl (by kernel_rfl) (by rfl) (fun K hK => ?_)
        refine wp_append_own _ (.tmp 58) (.tmp 62) 25 rfl w4.heap.size 24 i0 (.agg #[.int .i64 0, .int .i64 0, .int .i64 0, .int .i64 0]) 4 32 Tryd.underlying25 I0.out.1 I0.out.2.1 I0.out.2.2.1 I0.out.2.2.2 rfl (by decide) _ 1 [.int .i64 h0, .int .i64 h1, .int .i64 h2, .int .i64 h3] rfl (HOW.out w7 HB7.out) ⟨w7.heap.size, 0, none⟩ 1 1 [.int .i64 f0, .int .i64 f1, .int .i64 f2, .int .i64 f3] rfl rfl (HNW.out w7 _ rfl) H1C.out HMX.out.1 HMX.out.2 (HLE.out w7 HB7.out) fun v8 w8 hown hgr _ => ?_
        obtain ⟨A7, c7, rfl, hs7, hls7, hfr7⟩ := own_two hown
        have hb8 : Below w4.heap.size (w7.alloc (.cells #[.int .i64 f0, .int .i64 f1, .int .i64 f2, .int .i64 f3] 24)) w8 := (Below.refl _ _).grown hgr (HLE.out w7 HB7.out) fun g e => ((HOW.out w7 HB7.out).lt g e).1
        have R8 := Lib.hid ((R7.out.alloc (.cells #[.int .i64 f0, .int .i64 f1, .int .i64 f2, .int .i64 f3] 24)).past hb8 HG5.out.1 HG5.out.2)
        have HL8 := Lib.hid (And.intro hs7 (And.intro hls7 hfr7))
        clear hown hgr hs7 hls7 hfr7 hb8
        refine hK _ _ R8.out.slice ?_
        clear hK K
        simp only [List.setIfInBounds_toArray, List.set_cons_zero, List.set_cons_succ]
        have HSD := R8.out.slice
        refine Gated.take (i := 7) (v := ?_) (d := some 64) rfl rfl (by kernel_rfl) (by kernel_rfl) (by kernel_rfl) (fun _ _ _ h => h) rfl (fun _ => HSD) ⟨by rfl, fun w => ?_⟩ ?_
        rotate_left
        · (go_simp; all_goals with_reducible rfl)
        simp only [Act.put, List.setIfInBounds_toArray, List.set_cons_zero, List.set_cons_succ]
        have fz := frozen_at R8.out.row 13
        refine Gated.step (i := 8) rfl (by kernel_rfl) (by rfl) (by rfl) (fun K hK => ?_)
        go_simp
        refine hK _ _ ?_
        clear hK K
        simp only [List.setIfInBounds_toArray, List.set_cons_zero, List.set_cons_succ]
        refine Gated.done (by kernel_rfl) ?_
        have HW9 : Hid (Rz w1 gs #[.int .i64 (nm 0 5 : Int), .int .i64 (b5 : Int), .int .i64 (nm 6 4 : Int), .int .i64 (nm 10 6 : Int), .int .i64 (nm 16 5 : Int), .int .i64 t0, .int .i64 t1, .int .i64 t2, .int .i64 t3, .int .i64 h0, .int .i64 h1, .int .i64 h2, .int .i64 h3, .slice A7 2 c7] (w8.setCell ⟨gs, 13, none⟩ (.slice A7 2 c7))) := R8.out.last
        have HG8 := Lib.hid (grown_set w8 gs 13 (.slice A7 2 c7))
        have HGE : Hid (gs < w4.heap.size) := HG5.out.1
        clear fz HSD
        generalize w8.setCell ⟨gs, 13, none⟩ (.slice A7 2 c7) = w9 at *
        obtain ⟨-, -, -, -, -, -, -, -, -, -, -, -, -, x13⟩ := cells14 HW9.out.row
        go_upto_region 9 with fail
        have HAT : Hid (SbAt w9 w9.heap.size ⟨(nm 0 5 : Int), (b5 : Int), (nm 6 4 : Int), (nm 10 6 : Int), (nm 16 5 : Int), ⟨t0, t1, t2, t3⟩, ⟨h0, h1, h2, h3⟩, [⟨h0, h1, h2, h3⟩, ⟨f0, f1, f2, f3⟩]⟩ A7 2 c7) := (show SbAt w8 w8.heap.size ⟨(nm 0 5 : Int), (b5 : Int), (nm 6 4 : Int), (nm 10 6 : Int), (nm 16 5 : Int), ⟨t0, t1, t2, t3⟩, ⟨h0, h1, h2, h3⟩, [⟨h0, h1, h2, h3⟩, ⟨f0, f1, f2, f3⟩]⟩ A7 2 c7 from ⟨HL8.out.1, rfl, HL8.out.2.1⟩).grown HG8.out (fun k hk ad' e => by have := HL8.out.2.2 ad' e; have := HGE.out; omega) |>.own
        have HFR : Hid (∀ ad', A7 = some ad' → w1.heap.size ≤ ad'.block) := fun ad' e => Nat.le_trans HG5.out.2 (HL8.out.2.2 ad' e)
        clear x13 HL8 HG8 R8 R7 HB7 HWd HBd R3d I0 HMX HNW HOW HLE H1C HBK HW
        obtain ⟨x0, x1, x2, x3, x4, x5, x6, x7, x8, x9, x10, x11, x12, x13⟩ := cells14 HW9.out.row
        have QV := Lib.hid (refsbvalid_any (nm 0 5 : Int) (b5 : Int) (nm 6 4 : Int) (nm 10 6 : Int) (nm 16 5 : Int) t0 t1 t2 t3 h0 h1 h2 h3 A7 w9.heap.size 2 c7 [⟨h0, h1, h2, h3⟩, ⟨f0, f1, f2, f3⟩] w9 (Nat.le_refl _) HAT.out.2.1 HAT.out.2.2)
        by_cases hv : Sb.valid ⟨(nm 0 5 : Int), (b5 : Int), (nm 6 4 : Int), (nm 10 6 : Int), (nm 16 5 : Int), ⟨t0, t1, t2, t3⟩, ⟨h0, h1, h2, h3⟩, [⟨h0, h1, h2, h3⟩, ⟨f0, f1, f2, f3⟩]⟩
        · have HI2 : Hid ((∃ s, Sb.good x l s) ↔ Sb.enc x ⟨(nm 0 5 : Int), (b5 : Int), (nm 6 4 : Int), (nm 10 6 : Int), (nm 16 5 : Int), ⟨t0, t1, t2, t3⟩, ⟨h0, h1, h2, h3⟩, [⟨h0, h1, h2, h3⟩, ⟨f0, f1, f2, f3⟩]⟩ = l) := HI0.out.trans ⟨fun h => h.2, fun h => ⟨hv, h⟩⟩
          have HEL := Lib.hid (Sb.enc_length x ⟨(nm 0 5 : Int), (b5 : Int), (nm 6 4 : Int), (nm 10 6 : Int), (nm 16 5 : Int), ⟨t0, t1, t2, t3⟩, ⟨h0, h1, h2, h3⟩, [⟨h0, h1, h2, h3⟩, ⟨f0, f1, f2, f3⟩]⟩)
          have RE : Hid (∀ W, Below w9.heap.size w9 W → Calls Tryd.prog 23 #[.agg #[.int .i64 (nm 0 5 : Int), .int .i64 (b5 : Int), .int .i64 (nm 6 4 : Int), .int .i64 (nm 10 6 : Int), .int .i64 (nm 16 5 : Int), .int .i64 t0, .int .i64 t1, .int .i64 t2, .int .i64 t3, .int .i64 h0, .int .i64 h1, .int .i64 h2, .int .i64 h3, .slice A7 2 c7], .int .i64 x] W fun r w' => ∃ A3 c3, r = .returned (.slice A3 64 c3) ∧ SlIs A3 64 c3 ∧ Bs w' w'.heap.size A3 (Sb.enc x ⟨(nm 0 5 : Int), (b5 : Int), (nm 6 4 : Int), (nm 10 6 : Int), (nm 16 5 : Int), ⟨t0, t1, t2, t3⟩, ⟨h0, h1, h2, h3⟩, [⟨h0, h1, h2, h3⟩, ⟨f0, f1, f2, f3⟩]⟩) ∧ Below W.heap.size W w') := fun W hW => refsbenc_any (nm 0 5 : Int) (b5 : Int) (nm 6 4 : Int) (nm 10 6 : Int) (nm 16 5 : Int) t0 t1 t2 t3 h0 h1 h2 h3 x A7 w9.heap.size 2 c7 [⟨h0, h1, h2, h3⟩, ⟨f0, f1, f2, f3⟩] W hW.size HAT.out.2.1 (HAT.out.2.2.below hW (Nat.le_refl _)) hv HX1.out
          rw [decide_eq_true hv] at QV
          clear hv HI0
          generalize Sb.enc x ⟨(nm 0 5 : Int), (b5 : Int), (nm 6 4 : Int), (nm 10 6 : Int), (nm 16 5 : Int), ⟨t0, t1, t2, t3⟩, ⟨h0, h1, h2, h3⟩, [⟨h0, h1, h2, h3⟩, ⟨f0, f1, f2, f3⟩]⟩ = en at *
          go_wp2_with fail
          refine QV.out.mono ?_
          rintro r w7 ⟨rfl, hb7⟩
          have R7 := Lib.hid (HW9.out.next hb7)
          have L7 := Lib.hid hb7
          clear hb7 x0 x1 x2 x3 x4 x5 x6 x7 x8 x9 x10 x11 x12 x13
          obtain ⟨x0, x1, x2, x3, x4, x5, x6, x7, x8, x9, x10, x11, x12, x13⟩ := cells14 R7.out.row
          go_wp2_with fail
          refine (RE.out _ L7.out).mono ?_
          rintro r w8 ⟨A8, c8, rfl, -, hbs8, hb8⟩
          have R8 := Lib.hid (R7.out.next hb8)
          have L8 := Lib.hid (L7.out.trans (hb8.mono L7.out.size))
          have S8 := Lib.hid (HSW.out _ R8.out.below)
          have QE := Lib.hid (refeq_any A8 A w8.heap.size B 64 n c8 c en l w8 HEL.out hl (by decide) hn hbs8 (HBL.out _ S8.out.2))
          clear hb8 hbs8 x0 x1 x2 x3 x4 x5 x6 x7 x8 x9 x10 x11 x12 x13
          by_cases he : en = l
          · rw [decide_eq_true he] at QE
            have HOK := Lib.hid (HI2.out.2 he)
            clear HI2 he
            go_wp2_with fail
            refine QE.out.mono ?_
            rintro r w9 ⟨rfl, k9, rfl⟩
            obtain ⟨x0, x1, x2, x3, x4, x5, x6, x7, x8, x9, x10, x11, x12, x13⟩ := cells14 R8.out.row
            obtain ⟨y0, y1, y2, y3, y4, y5, y6, y7, y8, y9, y10, y11, y12, y13⟩ := cells14 S8.out.1
            obtain ⟨fz0, fz1, fz2, fz3, fz4, fz5, fz6, fz7, fz8, fz9, fz10, fz11, fz12, fz13⟩ := frozen14 S8.out.1
            go_wp2_with fail
            (try simp only [Exit.inBlock, Exit.then])
            refine bodyPost_ret (results_row2 rfl _ _ w.heap.size _ _ (0, 0) _ rfl (stored14 (w := w8.drewN k9) S8.out.1) Tryd.underlying27 rfl (by kernel_rfl)) rfl ?_
            have HGR := stored14_grown (w8.drewN k9) w.heap.size (.int .i64 (nm 0 5 : Int)) (.int .i64 (b5 : Int)) (.int .i64 (nm 6 4 : Int)) (.int .i64 (nm 10 6 : Int)) (.int .i64 (nm 16 5 : Int)) (.int .i64 t0) (.int .i64 t1) (.int .i64 t2) (.int .i64 t3) (.int .i64 h0) (.int .i64 h1) (.int .i64 h2) (.int .i64 h3) (.slice A7 2 c7)
            obtain ⟨s, hs⟩ := HOK.out
            obtain rfl := HE.out s hs
            refine .inl ⟨_, hs, A7, 2, c7, rfl, ⟨?_, fun ad e => Nat.le_trans (Nat.le_of_lt HLW.out) (HFR.out ad e)⟩, (below_drawn S8.out.2 k9).trans (below_of_grown HGR (Nat.le_refl _) (below_drawn S8.out.2 k9).size)⟩
            have a8 : SbAt (w8.drewN k9) w9.heap.size ⟨(nm 0 5 : Int), (b5 : Int), (nm 6 4 : Int), (nm 10 6 : Int), (nm 16 5 : Int), ⟨t0, t1, t2, t3⟩, ⟨h0, h1, h2, h3⟩, [⟨h0, h1, h2, h3⟩, ⟨f0, f1, f2, f3⟩]⟩ A7 2 c7 := HAT.out.below (below_drawn L8.out k9) (Nat.le_refl _)
            refine (a8.grown HGR (fun k hk ad' e => ?_)).own
            have := HFR.out ad' e
            have := HLW.out
            omega
          · rw [decide_eq_false he] at QE
            have HOK : Hid (¬ ∃ s, Sb.good x l s) := fun h => he (HI2.out.1 h)
            clear HI2 he
            go_wp2_with fail
            refine QE.out.mono ?_
            rintro r w9 ⟨rfl, k9, rfl⟩
            obtain ⟨y0, y1, y2, y3, y4, y5, y6, y7, y8, y9, y10, y11, y12, y13⟩ := cells14 S8.out.1
            obtain ⟨fz0, fz1, fz2, fz3, fz4, fz5, fz6, fz7, fz8, fz9, fz10, fz11, fz12, fz13⟩ := frozen14 S8.out.1
            go_wp2_with fail
            (try simp only [Exit.inBlock, Exit.then])
            refine bodyPost_ret (results_row2 rfl _ _ w.heap.size _ _ (0, 0) _ rfl (stored14 (w := w8.drewN k9) S8.out.1) Tryd.underlying27 rfl (by kernel_rfl)) rfl ?_
            exact .inr ⟨HOK.out, rfl, (below_drawn S8.out.2 k9).trans (below_of_grown (stored14_grown (w8.drewN k9) w.heap.size (.int .i64 0) (.int .i64 0) (.int .i64 0) (.int .i64 0) (.int .i64 0) (.int .i64 0) (.int .i64 0) (.int .i64 0) (.int .i64 0) (.int .i64 0) (.int .i64 0) (.int .i64 0) (.int .i64 0) (.slice none 0 0)) (Nat.le_refl _) (below_drawn S8.out.2 k9).size)⟩
        · have HOK : Hid (¬ ∃ s, Sb.good x l s) := fun h => hv (HI0.out.1 h).1
          rw [decide_eq_false hv] at QV
          clear hv HI0
          go_wp2_with fail
          refine QV.out.mono ?_
          rintro r w7 ⟨rfl, hb7⟩
          have S7 := Lib.hid (HSW.out _ (HW9.out.next hb7).below)
          clear hb7 x0 x1 x2 x3 x4 x5 x6 x7 x8 x9 x10 x11 x12 x13
          obtain ⟨y0, y1, y2, y3, y4, y5, y6, y7, y8, y9, y10, y11, y12, y13⟩ := cells14 S7.out.1
          obtain ⟨fz0, fz1, fz2, fz3, fz4, fz5, fz6, fz7, fz8, fz9, fz10, fz11, fz12, fz13⟩ := frozen14 S7.out.1
          go_wp2_with fail
          (try simp only [Exit.inBlock, Exit.then])
          refine bodyPost_ret (results_row2 rfl _ _ w.heap.size _ _ (0, 0) _ rfl (stored14 S7.out.1) Tryd.underlying27 rfl (by kernel_rfl)) rfl ?_
          exact .inr ⟨HOK.out, rfl, S7.out.2.trans (below_of_grown (stored14_grown w7 w.heap.size (.int .i64 0) (.int .i64 0) (.int .i64 0) (.int .i64 0) (.int .i64 0) (.int .i64 0) (.int .i64 0) (.int .i64 0) (.int .i64 0) (.int .i64 0) (.int .i64 0) (.int .i64 0) (.int .i64 0) (.slice none 0 0)) (Nat.le_refl _) S7.out.2.size)⟩
  · have HS1 := Lib.hid (HS0.out.next hb1 (by rfl) (by rfl) (by rfl) (by rfl))
    have HF : Hid (¬ ∃ s, Sb.good x l s) := fun h => hg (HI.out.1 h).1
    clear hb1 hg
    obtain ⟨y0, y1, y2, y3, y4, y5, y6, y7, y8, y9, y10, y11, y12, y13⟩ := cells14 HS1.out.1
    obtain ⟨fz0, fz1, fz2, fz3, fz4, fz5, fz6, fz7, fz8, fz9, fz10, fz11, fz12, fz13⟩ := frozen14 HS1.out.1
    go_wp2_with fail
    (try simp only [Exit.inBlock, Exit.then])
    refine bodyPost_ret (results_row2 rfl _ _ w.heap.size _ _ (0, 0) _ rfl (stored14 HS1.out.1) Tryd.underlying27 rfl (by kernel_rfl)) rfl ?_
    exact .inr ⟨HF.out, rfl, HS1.out.2.trans (below_of_grown (stored14_grown w1 w.heap.size (.int .i64 0) (.int .i64 0) (.int .i64 0) (.int .i64 0) (.int .i64 0) (.int .i64 0) (.int .i64 0) (.int .i64 0) (.int .i64 0) (.int .i64 0) (.int .i64 0) (.int .i64 0) (.int .i64 0) (.slice none 0 0)) (Nat.le_refl _) HS1.out.2.size)⟩
end Go.Proofs.YtcjnhemlkahgoaaDoor
