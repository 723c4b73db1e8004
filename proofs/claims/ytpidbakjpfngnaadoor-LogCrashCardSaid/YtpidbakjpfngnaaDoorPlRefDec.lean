/-
  The walk of the reference's Decode of plan records.
-/
import Derived.Test.YtpidbakjpfngnaaDoorPlDecode
import Derived.Test.YtpidbakjpfngnaaDoorPlRefEnc
set_option maxRecDepth 100000
namespace Go.Proofs.YtpidbakjpfngnaaDoor
open Go.RowKit
/-- A block of its own that holds cs, and all that was there before. -/
def Rk (w1 : World) (gs : Nat) (cs : Array Value) (W : World) : Prop := W.heap[gs]? = some (.cells cs 34 (0, 0)) ∧ Below w1.heap.size w1 W ∧ w1.heap.size ≤ gs
section
variable {w1 W W' : World} {gs : Nat} {cs : Array Value}
theorem Rk.row (h : Rk w1 gs cs W) : W.heap[gs]? = some (.cells cs 34 (0, 0)) := h.1
theorem Rk.below (h : Rk w1 gs cs W) : Below w1.heap.size w1 W := h.2.1
theorem Rk.next (h : Rk w1 gs cs W) (hb : Below W.heap.size W W') : Rk w1 gs cs W' := ⟨(hb.block _ (Array.getElem?_eq_some_iff.1 h.1).1).trans h.1, h.2.1.trans (hb.mono h.2.1.size), h.2.2⟩
theorem Rk.drew (h : Rk w1 gs cs W) : Rk w1 gs cs W.drew := ⟨h.1, h.2.1.drew, h.2.2⟩
theorem rk_made (h : Below w1.heap.size w1 W) (cs : Array Value) : Rk w1 W.heap.size cs (W.alloc (.cells cs 34)) := ⟨heap_alloc_new _ _, h.alloc h.size _, h.size⟩
theorem Rk.stored {a b c d e f h j a' b' c' d' e' f' h' j' : Value} (k : Rk w1 gs #[a, b, c, d, e, f, h, j] W) : Rk w1 gs #[a', b', c', d', e', f', h', j'] ((((((((W.setCell ⟨gs, 0, none⟩ a').setCell ⟨gs, 1, none⟩ b').setCell ⟨gs, 2, none⟩ c').setCell ⟨gs, 3, none⟩ d').setCell ⟨gs, 4, none⟩ e').setCell ⟨gs, 5, none⟩ f').setCell ⟨gs, 6, none⟩ h').setCell ⟨gs, 7, none⟩ j') :=
  ⟨stored8 k.1, k.2.1.trans (below_of_grown (stored8_grown _ _ _ _ _ _ _ _ _ _) k.2.2 k.2.1.size), k.2.2⟩
end
theorem pl_rl2_take (l : List Nat) : Sb.rl2 (l.take 7) = Sb.rl2 l := by
  unfold Sb.rl2
  simp only [List.take_take, List.drop_take]
  rfl
theorem part_of {w : World} {B : Nat} {ad : Addr} {p : List Nat} (h : Bs w B (some ad) p) (i k : Nat) (hi : 0 < i) : Bs w B (some ⟨ad.block, ad.off + i, none⟩) ((p.drop i).take k) := by
  have h1 := ((h.bsIn.drop i).bs).take k
  rwa [Option.map_some, add_pos ad i hi] at h1
theorem wrap_six (n : Nat) (h : n < 281474976710656) : IntKind.i64.wrap (n : Int) = (n : Int) := by
  rw [IntKind.wrap_i64]; omega
theorem num_first (l : List Nat) (h : 0 < l.length) : Wire.num (l.take 1) = l.getD 0 0 := by
  have := num_at l 0 h
  rwa [List.drop_zero] at this
set_option maxHeartbeats 16000000 in
theorem refpldec_any (x : Int) (A : Option Addr) (B n c : Nat) (l : List Nat) (w : World) (hB : B ≤ w.heap.size) (hs : SlIs A n c) (hl : Hid (l.length = n)) (hb : Hid (Bs w B A l)) (hn : n ≤ 140737488355328) :
    Calls Tryd.prog 35 #[.slice A n c, .int .i64 x] w (DecPl w x l) := by
  have HD : Hid (∀ W, Below w.heap.size w W → Calls Tryd.prog 51 #[.int .i64 4, .int .i64 0, .int .i64 x, .slice A n c] W fun e w' => (Fr.good 4 0 x l ∧ GotFr W (Rc.sub l 1 59) e w') ∨ (¬ Fr.good 4 0 x l ∧ NoFr W e w')) := fun W hW =>
    reffrdec_any 4 0 x A B n c l W (by decide) (Nat.le_trans hB hW.size) hs hl (hb.out.below hW hB)
  have HI := Lib.hid (Pl.good_iff Pl.rl2_reads x l)
  have HQ : Hid (∀ r w', (((∃ p, Pl.good x l p) ∧ GotPl w (Pl.rd Sb.rl2 (Rc.sub l 1 59)) r w') ∨ (¬ (∃ p, Pl.good x l p) ∧ NoPl w r w')) → DecPl w x l r w') := fun r w' h => pl_dec Iff.rfl (fun p hp => Pl.good_rd Pl.rl2_reads hp) h
  refine Calls.mono ?_ HQ.out
  have HX : Hid (Fr.good 4 0 x l → (0 ≤ x ∧ x < 1048576) ∧ (Rc.sub l 1 59).length = 59) := fun h => ⟨⟨h.1.2.2.2.1, h.1.2.2.2.2⟩, Fr.sub59 l h.2.1⟩
  have HBL : Hid (∀ W, Below w.heap.size w W → Bs W B A l) := fun W hW => hb.out.below hW hB
  clear hs hb HQ
  unfold GotFr NoFr at HD
  have HRD : Hid (∀ q, q = Rc.sub l 1 59 → q.length = 59 → Pl.rd Sb.rl2 q = ⟨(q.getD 0 0 : Int), (Wire.num ((q.drop 1).take 4) : Int), (q.getD 5 0 : Int), (Wire.num ((q.drop 6).take 6) : Int), Sb.rl2 ((q.drop 12).take 7)⟩) := fun q _ hq => by
    unfold Pl.rd
    rw [num_first q (by omega), num_at q 5 (by omega), pl_rl2_take]
  generalize Rc.sub l 1 59 = p at *
  replace HRD := Lib.hid (HRD.out p rfl)
  generalize Fr.good 4 0 x l = G at *
  generalize hdd : Pl.rd Sb.rl2 p = D at *
  clear hdd
  generalize (∃ p, Pl.good x l p) = HGd at *
  unfold GotPl NoPl
  have HS0 := Lib.hid (sd_new w #[.int .i64 0, .int .i64 0, .int .i64 0, .int .i64 0, .int .i64 0, .int .i64 0, .int .i64 0, .int .i64 0] 34)
  go_enter Tryd.func35, Tryd.ntmps35
  go_wp2_with fail
  generalize w.alloc (.cells #[.int .i64 0, .int .i64 0, .int .i64 0, .int .i64 0, .int .i64 0, .int .i64 0, .int .i64 0, .int .i64 0] 34) = w0 at *
  refine (HD.out _ HS0.out.2).mono ?_
  rintro r w1 (⟨hg, A1, c1, rfl, hs1, hbs1, hb1⟩ | ⟨hg, rfl, hb1⟩)
  · have HS1 := Lib.hid (HS0.out.next hb1 (by rfl) (by rfl) (by rfl) (by rfl))
    obtain ⟨hx, hpl⟩ := HX.out hg
    have HX1 := Lib.hid hx
    have hD := HRD.out hpl
    have HI0 : Hid (HGd ↔ Pl.valid D ∧ Pl.enc x D = l) := HI.out.trans ⟨fun h => h.2, fun h => ⟨hg, h⟩⟩
    obtain ⟨ad, rfl⟩ : ∃ ad, A1 = some ad := by
      cases A1 with
      | none => have := hs1.1 rfl; omega
      | some ad => exact ⟨ad, rfl⟩
    have hbp := hbs1.bs
    have hc59 : 59 ≤ c1 := hs1.2.1
    have hc63 := hs1.2.2
    have hplt := hbp.lt
    obtain ⟨q0, k0⟩ := cell_byte hbp 0 (by omega)
    obtain ⟨q5, k5⟩ := cell_byte hbp 5 (by omega)
    rw [add_pos ad 5 (by decide)] at k5
    rw [show ad.add 0 = ad by unfold Addr.add; rw [if_pos rfl]] at k0
    have HLT : Hid (ad.block < w1.heap.size) := by
      obtain ⟨-, ad', e, h, -⟩ := hbp 0 (by omega)
      injection e with e
      subst e
      exact h
    have HBP : Hid (∀ W, Below w1.heap.size w1 W → Bs W w1.heap.size (some ad) p) := fun W hW => hbp.below hW (Nat.le_refl _)
    obtain ⟨nm, hnm⟩ : ∃ nm : Nat → Nat → Nat, ∀ i k, nm i k = Wire.num ((p.drop i).take (min k 6)) := ⟨_, fun _ _ => rfl⟩
    have hq : ∀ i k, nm i k < 281474976710656 := fun i k => by
      rw [hnm]
      exact num6 (p.drop i) (min k 6) (by omega) (fun y hy => hplt y (List.mem_of_mem_drop hy))
    have ewn : ∀ i k, IntKind.i64.wrap ((nm i k : Nat) : Int) = ((nm i k : Nat) : Int) := fun i k => wrap_six _ (hq i k)
    have NU : Hid (∀ (i k : Nat) (W : World), 0 < i ∧ i + k ≤ 59 ∧ k ≤ 6 → Below w1.heap.size w1 W → Calls Tryd.prog 52 #[.slice (some ⟨ad.block, ad.off + i, none⟩) k (c1 - i)] W fun e w' => e = .returned (.int .u64 (nm i k : Int)) ∧ W = w') := fun i k W hi hW => by
      rw [hnm, Nat.min_eq_left hi.2.2]
      exact refnum_any _ w1.heap.size k (c1 - i) _ W (by show _ = _; rw [List.length_take, List.length_drop]; omega) (by omega) (part_of (HBP.out W hW) i k hi.1)
    have R1 : Hid (∀ (W : World), Below w1.heap.size w1 W → Calls Tryd.prog 53 #[.slice (some ⟨ad.block, ad.off + 12, none⟩) 7 (c1 - 12)] W fun r w' => r = .returned (.agg #[.int .i64 (Sb.rl2 ((p.drop 12).take 7)).id, .int .i64 (Sb.rl2 ((p.drop 12).take 7)).ver, .int .i64 (Sb.rl2 ((p.drop 12).take 7)).rs, .int .i64 (Sb.rl2 ((p.drop 12).take 7)).reg]) ∧ Below W.heap.size W w') := fun W hW =>
      sbread_any ⟨ad.block, ad.off + 12, none⟩ w1.heap.size (c1 - 12) _ W hW.size (by omega) (by omega) (by rw [List.length_take, List.length_drop]; omega) (part_of (HBP.out W hW) 12 7 (by decide))
    rw [show Wire.num ((p.drop 1).take 4) = nm 1 4 by rw [hnm]; rfl, show Wire.num ((p.drop 6).take 6) = nm 6 6 by rw [hnm]; rfl] at hD
    generalize p.getD 0 0 = b0 at *
    generalize p.getD 5 0 = b5 at *
    obtain ⟨t0, t1, t2, t3, hT⟩ : ∃ a b c d, Sb.rl2 ((p.drop 12).take 7) = ⟨a, b, c, d⟩ := ⟨_, _, _, _, rfl⟩
    rw [hT] at R1 hD
    have HDD := Lib.hid hD
    have HCB : Hid (∀ W, Below w1.heap.size w1 W → W.cell? ad = some (.int .u8 (b0 : Int)) ∧ W.cell? ⟨ad.block, ad.off + 5, none⟩ = some (.int .u8 (b5 : Int))) := fun W hW => ⟨(hW.cell HLT.out).trans k0, (hW.cell (show (Addr.mk ad.block (ad.off + 5) none).block < _ from HLT.out)).trans k5⟩
    have eb0 := wrap_byte b0 q0
    have eb5 := wrap_byte b5 q5
    clear hbs1 hs1 hb1 hg HD HI HX HRD hD hT hbp hplt hnm hq k0 k5 q0 q5 hpl hx
    simp only at R1
    have i1 : (1 : Int) ≤ (c1 : Int) := by omega
    have i5 : (5 : Int) ≤ (c1 : Int) := by omega
    have i6 : (6 : Int) ≤ (c1 : Int) := by omega
    have i12 : (12 : Int) ≤ (c1 : Int) := by omega
    have i19 : (19 : Int) ≤ (c1 : Int) := by omega
    have jj1 : c1 ≠ 1 := by omega
    have jj6 : c1 ≠ 6 := by omega
    have jj12 : c1 ≠ 12 := by omega
    go_upto_region 4 with fail
    go_cut [8] (fun s wx => ∃ gs, s = .pointer (some ⟨gs, 0, none⟩) ∧ Hid (Rk w1 gs #[.int .i64 (b0 : Int), .int .i64 (nm 1 4 : Int), .int .i64 (b5 : Int), .int .i64 (nm 6 6 : Int), .int .i64 t0, .int .i64 t1, .int .i64 t2, .int .i64 t3] wx))
    case first =>
      have B0 := Lib.hid (Below.refl w1.heap.size w1).drew
      have Z0 := Lib.hid (rk_made (Below.refl w1.heap.size w1) #[.int .i64 0, .int .i64 0, .int .i64 0, .int .i64 0, .int .i64 0, .int .i64 0, .int .i64 0, .int .i64 0]).drew
      obtain ⟨c0, c5⟩ := HCB.out _ B0.out
      have Nd1 := Lib.hid (NU.out 1 4 _ (by decide) B0.out)
      have Nz1 := Lib.hid (NU.out 1 4 _ (by decide) Z0.out.below)
      have Nd6 := Lib.hid (NU.out 6 6 _ (by decide) B0.out)
      have Nz6 := Lib.hid (NU.out 6 6 _ (by decide) Z0.out.below)
      have R1d := Lib.hid (R1.out _ B0.out)
      have R1z := Lib.hid (R1.out _ Z0.out.below)
      go_region_held3 (fun W => W.cell? ad = some (.int .u8 (b0 : Int)) ∧ W.cell? ⟨ad.block, ad.off + 5, none⟩ = some (.int .u8 (b5 : Int)))
        (first
          | (revert Z1; intro Z1; with_reducible exact HCB.out _ Z1.out.stored.below)
          | (revert Z1; intro Z1; with_reducible exact HCB.out _ Z1.out.below)
          | (revert B1; intro B1; with_reducible exact HCB.out _ (rk_made B1.out _).below)
          | (revert B1; intro B1; with_reducible exact HCB.out _ B1.out)
          | (with_reducible exact HCB.out _ Z0.out.below)
          | (with_reducible exact HCB.out _ B0.out))
        (first
          | (go_at_call 52; first
              | ((with_reducible refine Nd1.out.mono ?_); rintro e w' ⟨rfl, rfl⟩)
              | ((with_reducible refine Nz1.out.mono ?_); rintro e w' ⟨rfl, rfl⟩)
              | ((with_reducible refine Nd6.out.mono ?_); rintro e w' ⟨rfl, rfl⟩)
              | ((with_reducible refine Nz6.out.mono ?_); rintro e w' ⟨rfl, rfl⟩))
          | (go_at_call 53; first
              | ((with_reducible refine R1z.out.mono ?_); rintro r v ⟨rfl, hb⟩; have Z1 := Lib.hid (Z0.out.next hb); clear hb; obtain ⟨x0, x1, x2, x3, x4, x5, x6, x7⟩ := eight_cells Z1.out.row; obtain ⟨fz0, fz1, fz2, fz3, fz4, fz5, fz6, fz7⟩ := eight_frozen Z1.out.row)
              | ((with_reducible refine R1d.out.mono ?_); rintro r v ⟨rfl, hb⟩; have B1 := Lib.hid (B0.out.trans (hb.mono B0.out.size)); clear hb)))
      all_goals
        (try go_wp2_with fail)
        go_meet
        first
          | (revert Z1; intro Z1; exact ⟨_, rfl, Z1.out.stored⟩)
          | (revert B1; intro B1; exact ⟨_, rfl, rk_made B1.out _⟩)
    case rest =>
      obtain ⟨gs, rfl, HV⟩ := hcut
      generalize wc = w4 at *
      have hDD := HDD.out
      subst hDD
      have HSW : Hid (∀ W, Below w1.heap.size w1 W → Sd w w.heap.size (.cells #[.int .i64 0, .int .i64 0, .int .i64 0, .int .i64 0, .int .i64 0, .int .i64 0, .int .i64 0, .int .i64 0] 34 (0, 0)) W) := fun W hW => HS1.out.next hW rfl rfl rfl rfl
      have HLW : Hid (w.heap.size < w1.heap.size) := HS1.out.lt
      have HGS : Hid (gs < w4.heap.size) := (Array.getElem?_eq_some_iff.1 HV.out.row).1
      clear NU R1 HLT HBP ewn eb0 eb5 HDD i1 i5 i6 i12 i19 jj1 jj6 jj12 HS0 HCB
      obtain ⟨x0, x1, x2, x3, x4, x5, x6, x7⟩ := eight_cells HV.out.row
      have QV := Lib.hid (refplvalid_any (b0 : Int) (nm 1 4 : Int) (b5 : Int) (nm 6 6 : Int) t0 t1 t2 t3 w4)
      by_cases hv : Pl.valid ⟨(b0 : Int), (nm 1 4 : Int), (b5 : Int), (nm 6 6 : Int), ⟨t0, t1, t2, t3⟩⟩
      · have HI2 : Hid (HGd ↔ Pl.enc x ⟨(b0 : Int), (nm 1 4 : Int), (b5 : Int), (nm 6 6 : Int), ⟨t0, t1, t2, t3⟩⟩ = l) := HI0.out.trans ⟨fun h => h.2, fun h => ⟨hv, h⟩⟩
        have HEL := Lib.hid (Pl.enc_length x ⟨(b0 : Int), (nm 1 4 : Int), (b5 : Int), (nm 6 6 : Int), ⟨t0, t1, t2, t3⟩⟩)
        have RE : Hid (∀ W, Calls Tryd.prog 14 #[.agg #[.int .i64 (b0 : Int), .int .i64 (nm 1 4 : Int), .int .i64 (b5 : Int), .int .i64 (nm 6 6 : Int), .int .i64 t0, .int .i64 t1, .int .i64 t2, .int .i64 t3], .int .i64 x] W fun r w' => ∃ A3 c3, r = .returned (.slice A3 64 c3) ∧ SlIs A3 64 c3 ∧ Bs w' w'.heap.size A3 (Pl.enc x ⟨(b0 : Int), (nm 1 4 : Int), (b5 : Int), (nm 6 6 : Int), ⟨t0, t1, t2, t3⟩⟩) ∧ Below W.heap.size W w') := fun W => refplenc_any (b0 : Int) (nm 1 4 : Int) (b5 : Int) (nm 6 6 : Int) t0 t1 t2 t3 x W hv HX1.out
        rw [decide_eq_true hv] at QV
        clear hv HI0
        generalize Pl.enc x ⟨(b0 : Int), (nm 1 4 : Int), (b5 : Int), (nm 6 6 : Int), ⟨t0, t1, t2, t3⟩⟩ = en at *
        go_wp2_with fail
        refine QV.out.mono ?_
        rintro r w7 ⟨rfl, hb7⟩
        have R7 := Lib.hid (HV.out.next hb7)
        clear hb7 x0 x1 x2 x3 x4 x5 x6 x7
        obtain ⟨x0, x1, x2, x3, x4, x5, x6, x7⟩ := eight_cells R7.out.row
        go_wp2_with fail
        refine (RE.out _).mono ?_
        rintro r w8 ⟨A8, c8, rfl, -, hbs8, hb8⟩
        have R8 := Lib.hid (R7.out.next hb8)
        have S8 := Lib.hid (HSW.out _ R8.out.below)
        have QE := Lib.hid (refeq_any A8 A w8.heap.size B 64 n c8 c en l w8 HEL.out hl (by decide) hn hbs8 (HBL.out _ S8.out.2))
        clear hb8 hbs8 x0 x1 x2 x3 x4 x5 x6 x7
        by_cases he : en = l
        · rw [decide_eq_true he] at QE
          have HOK := Lib.hid (HI2.out.2 he)
          clear HI2 he
          go_wp2_with fail
          refine QE.out.mono ?_
          rintro r w9 ⟨rfl, k9, rfl⟩
          obtain ⟨x0, x1, x2, x3, x4, x5, x6, x7⟩ := eight_cells R8.out.row
          obtain ⟨y0, y1, y2, y3, y4, y5, y6, y7⟩ := eight_cells S8.out.1
          obtain ⟨fz0, fz1, fz2, fz3, fz4, fz5, fz6, fz7⟩ := eight_frozen S8.out.1
          go_wp2_with fail
          (try simp only [Exit.inBlock, Exit.then])
          refine bodyPost_ret (results_row2 rfl _ _ w.heap.size _ _ (0, 0) _ rfl (stored8 (w := w8.drewN k9) S8.out.1) Tryd.underlying34 rfl (by kernel_rfl)) rfl ?_
          have HGR := stored8_grown (w8.drewN k9) w.heap.size (.int .i64 (b0 : Int)) (.int .i64 (nm 1 4 : Int)) (.int .i64 (b5 : Int)) (.int .i64 (nm 6 6 : Int)) (.int .i64 t0) (.int .i64 t1) (.int .i64 t2) (.int .i64 t3)
          exact .inl ⟨HOK.out, rfl, (below_drawn S8.out.2 k9).trans (below_of_grown HGR (Nat.le_refl _) (below_drawn S8.out.2 k9).size)⟩
        · rw [decide_eq_false he] at QE
          have HOK : Hid (¬ HGd) := fun h => he (HI2.out.1 h)
          clear HI2 he
          go_wp2_with fail
          refine QE.out.mono ?_
          rintro r w9 ⟨rfl, k9, rfl⟩
          obtain ⟨y0, y1, y2, y3, y4, y5, y6, y7⟩ := eight_cells S8.out.1
          obtain ⟨fz0, fz1, fz2, fz3, fz4, fz5, fz6, fz7⟩ := eight_frozen S8.out.1
          go_wp2_with fail
          (try simp only [Exit.inBlock, Exit.then])
          refine bodyPost_ret (results_row2 rfl _ _ w.heap.size _ _ (0, 0) _ rfl (stored8 (w := w8.drewN k9) S8.out.1) Tryd.underlying34 rfl (by kernel_rfl)) rfl ?_
          have HGR := stored8_grown (w8.drewN k9) w.heap.size (.int .i64 0) (.int .i64 0) (.int .i64 0) (.int .i64 0) (.int .i64 0) (.int .i64 0) (.int .i64 0) (.int .i64 0)
          exact .inr ⟨HOK.out, rfl, (below_drawn S8.out.2 k9).trans (below_of_grown HGR (Nat.le_refl _) (below_drawn S8.out.2 k9).size)⟩
      · have HOK : Hid (¬ HGd) := fun h => hv (HI0.out.1 h).1
        rw [decide_eq_false hv] at QV
        clear hv HI0
        go_wp2_with fail
        refine QV.out.mono ?_
        rintro r w7 ⟨rfl, hb7⟩
        have S7 := Lib.hid (HSW.out _ (HV.out.next hb7).below)
        clear hb7 x0 x1 x2 x3 x4 x5 x6 x7
        obtain ⟨y0, y1, y2, y3, y4, y5, y6, y7⟩ := eight_cells S7.out.1
        obtain ⟨fz0, fz1, fz2, fz3, fz4, fz5, fz6, fz7⟩ := eight_frozen S7.out.1
        go_wp2_with fail
        (try simp only [Exit.inBlock, Exit.then])
        refine bodyPost_ret (results_row2 rfl _ _ w.heap.size _ _ (0, 0) _ rfl (stored8 S7.out.1) Tryd.underlying34 rfl (by kernel_rfl)) rfl ?_
        exact .inr ⟨HOK.out, rfl, sd8_res S7.out (Nat.le_refl _)⟩
  · have HS1 := Lib.hid (HS0.out.next hb1 (by rfl) (by rfl) (by rfl) (by rfl))
    have HF : Hid (¬ HGd) := fun h => hg (HI.out.1 h).1
    clear hb1 hg
    obtain ⟨y0, y1, y2, y3, y4, y5, y6, y7⟩ := eight_cells HS1.out.1
    obtain ⟨fz0, fz1, fz2, fz3, fz4, fz5, fz6, fz7⟩ := eight_frozen HS1.out.1
    go_wp2_with fail
    (try simp only [Exit.inBlock, Exit.then])
    refine bodyPost_ret (results_row2 rfl _ _ w.heap.size _ _ (0, 0) _ rfl (stored8 HS1.out.1) Tryd.underlying34 rfl (by kernel_rfl)) rfl ?_
    exact .inr ⟨HF.out, rfl, sd8_res HS1.out (Nat.le_refl _)⟩
end Go.Proofs.YtpidbakjpfngnaaDoor
