/-
  The walk of the reference's Decode of headers.
-/
import Derived.Test.YtjfgnojmdbfnmaaDoorHdDecode
import Derived.Test.YtjfgnojmdbfnmaaDoorHdRef
namespace Go.Proofs.YtjfgnojmdbfnmaaDoor
open Go.RowKit
theorem drew_alloc_new (w : World) (o : Obj) : (w.alloc o).drew.heap[w.heap.size]? = some o := heap_alloc_new w o
theorem num_one (l : List Nat) (h : 0 < l.length) : Wire.num (l.take 1) = l.getD 0 0 := by
  match l, h with
  | x :: l, _ => simp [Wire.num]
theorem num_second (l : List Nat) (h : 1 < l.length) : Wire.num ((l.drop 1).take 1) = l.getD 1 0 := by
  match l, h with
  | x :: y :: l, _ => simp [Wire.num]
theorem wrap_small64 (n : Nat) (h : n < 281474976710656) : IntKind.i64.wrap (n : Int) = (n : Int) := by
  rw [IntKind.wrap_i64]; omega
/-- A part of the payload, for the reader of numbers. -/
theorem part_bs {w : World} {B : Nat} {ad : Addr} {p : List Nat} (h : Bs w B (some ad) p) (i k : Nat) (hi : 0 < i) : Bs w B (some ⟨ad.block, ad.off + i, none⟩) ((p.drop i).take k) := by
  have h1 := ((h.bsIn.drop i).bs).take k
  rwa [Option.map_some, add_pos ad i hi] at h1
set_option maxHeartbeats 4000000 in
theorem refhddec_any (x : Int) (A : Option Addr) (B n c : Nat) (l : List Nat) (w : World) (hB : B ≤ w.heap.size) (hs : SlIs A n c) (hl : Hid (l.length = n)) (hb : Hid (Bs w B A l)) (hn : n ≤ 140737488355328) :
    Calls Tryd.prog 19 #[.slice A n c, .int .i64 x] w fun r w' => (Hd.good x l ∧ GotHd w (Hd.rd (Rc.sub l 1 59)) r w') ∨ (¬ Hd.good x l ∧ NoHd w r w') := by
  have HD : Hid (∀ W, Below w.heap.size w W → Calls Tryd.prog 39 #[.int .i64 1, .int .i64 0, .int .i64 x, .slice A n c] W fun e w' => (Fr.good 1 0 x l ∧ GotFr W (Rc.sub l 1 59) e w') ∨ (¬ Fr.good 1 0 x l ∧ NoFr W e w')) := fun W hW =>
    reffrdec_any 1 0 x A B n c l W (by decide) (Nat.le_trans hB hW.size) hs hl (hb.out.below hW hB)
  have HBL : Hid (∀ W, Below w.heap.size w W → Bs W B A l) := fun W hW => hb.out.below hW hB
  have HPL : Hid (Fr.good 1 0 x l → (Rc.sub l 1 59).length = 59 ∧ (∀ y ∈ Rc.sub l 1 59, y < 256) ∧ (Hd.enc x (Hd.rd (Rc.sub l 1 59)) = l ↔ Hd.rest0 (Rc.sub l 1 59) = true) ∧ 0 ≤ x ∧ x < 1048576) := fun h =>
    ⟨Fr.sub59 l h.2.1, sub_lt hb.out.lt _ _, Hd.again x l hb.out.lt h, h.1.2.2.2.1, h.1.2.2.2.2⟩
  have HG : Hid (Hd.good x l ↔ Fr.good 1 0 x l ∧ Hd.valid (Hd.rd (Rc.sub l 1 59)) ∧ Hd.rest0 (Rc.sub l 1 59) = true) := Iff.rfl
  have hnc := hs.2.1
  have hc63 := hs.2.2
  clear hs hb
  unfold GotFr NoFr at HD
  generalize Rc.sub l 1 59 = p at *
  generalize Hd.rest0 p = z at *
  generalize Fr.good 1 0 x l = G at *
  generalize Hd.good x l = HGd at *
  unfold GotHd NoHd
  have HRH : Hid (∀ v, v = Hd.rd p → Hd.rd p = v) := fun _ e => e.symm
  generalize hrd : Hd.rd p = h at *
  obtain ⟨v0, v1, v2, v3, v4, v5⟩ := h
  have HRE0 : Hid (Hd.rd p = ⟨v0, v1, v2, v3, v4, v5⟩) := hrd
  clear hrd HRH
  obtain ⟨b0, HE0⟩ : ∃ b, Hid (p.getD 0 0 = b) := ⟨_, rfl⟩
  obtain ⟨b1, HE1⟩ : ∃ b, Hid (p.getD 1 0 = b) := ⟨_, rfl⟩
  simp only
  have HS0 := Lib.hid (sd_new w #[.int .i64 0, .int .i64 0, .int .i64 0, .int .i64 0, .int .i64 0, .int .i64 0] 23)
  go_enter Tryd.func19, Tryd.ntmps19
  go_wp2_with fail
  generalize w.alloc (.cells #[.int .i64 0, .int .i64 0, .int .i64 0, .int .i64 0, .int .i64 0, .int .i64 0] 23) = w0 at *
  refine (HD.out _ HS0.out.2).mono ?_
  rintro r w1 (⟨hg, A1, c1, rfl, hs1, hbs1, hb1⟩ | ⟨hg, rfl, hb1⟩)
  · have HS1 := Lib.hid (HS0.out.next hb1 (by rfl) (by rfl) (by rfl) (by rfl))
    obtain ⟨hpl, hplt, hag, hx⟩ := HPL.out hg
    have HP := Lib.hid (And.intro hpl hplt)
    have HAG := Lib.hid hag
    have HX := Lib.hid hx
    have HGG : Hid (HGd ↔ Hd.valid ⟨v0, v1, v2, v3, v4, v5⟩ ∧ z = true) := HG.out.trans ⟨fun h => h.2, fun h => ⟨hg, h⟩⟩
    obtain ⟨ad, rfl⟩ : ∃ ad, A1 = some ad := by
      cases A1 with
      | none => have := hs1.1 rfl; omega
      | some ad => exact ⟨ad, rfl⟩
    have hbp := hbs1.bs
    have hc59 : 59 ≤ c1 := hs1.2.1
    have hc63' := hs1.2.2
    obtain ⟨hlt0, ad0, e0, hblk, hc0⟩ := hbp 0 (by omega)
    injection e0 with e0
    subst e0
    obtain ⟨hlt1, ad1, e1, -, hc1⟩ := hbp 1 (by omega)
    injection e1 with e1
    subst e1
    rw [add_pos ad 1 (by decide)] at hc1
    have hc0' : w1.cell? ad = some (.int .u8 ((p.getD 0 0 : Nat) : Int)) := hc0
    obtain ⟨nm, hnm⟩ : ∃ nm : Nat → Nat → Nat, ∀ i k, nm i k = Wire.num ((p.drop i).take (min k 6)) := ⟨_, fun _ _ => rfl⟩
    have hq : ∀ i k, nm i k < 281474976710656 := fun i k => by
      rw [hnm]
      exact num6 (p.drop i) (min k 6) (by omega) (fun y hy => hplt y (List.mem_of_mem_drop hy))
    have ewn : ∀ i k, IntKind.i64.wrap ((nm i k : Nat) : Int) = ((nm i k : Nat) : Int) := fun i k => wrap_small64 _ (hq i k)
    have HRD : Hid (Hd.rd p = ⟨(b0 : Int), (b1 : Int), (nm 2 4 : Int), (nm 6 6 : Int), (nm 12 6 : Int), (nm 18 5 : Int)⟩) := by
      show _ = _
      rw [← HE0.out, ← HE1.out, ← num_one p (by omega), ← num_second p (by omega), hnm, hnm, hnm, hnm]; rfl
    have NU : Hid (∀ (i k : Nat) (W : World), 0 < i ∧ i + k ≤ 59 ∧ k ≤ 6 → Bs W w1.heap.size (some ad) p → Calls Tryd.prog 40 #[.slice (some ⟨ad.block, ad.off + i, none⟩) k (c1 - i)] W fun e w' => e = .returned (.int .u64 (nm i k : Int)) ∧ W = w') := fun i k W hi h => by
      rw [hnm, Nat.min_eq_left hi.2.2]
      exact refnum_any _ w1.heap.size k (c1 - i) _ W (by show _ = _; rw [List.length_take, List.length_drop]; omega) (by omega) (part_bs h i k hi.1)
    have HBA : Hid (∀ o, Bs (w1.alloc o) w1.heap.size (some ad) p) := fun o => hbp.below ((Below.refl _ w1).alloc (Nat.le_refl _) o) (Nat.le_refl _)
    have HB0 : Hid (Bs w1 w1.heap.size (some ad) p) := hbp
    have eqs := HRE0.out.symm.trans HRD.out
    injection eqs with e0 e1 e2 e3 e4 e5
    subst e0 e1 e2 e3 e4 e5
    have hblk' : ad.block < w1.heap.size := hblk
    have hne : ¬ ad.block = w1.heap.size := by omega
    have hne' : ¬ w1.heap.size = ad.block := by omega
    have eb0 := wrap_small64 b0 (by rw [← HE0.out]; exact Nat.lt_trans (getD_lt hplt 0) (by decide))
    have eb1 := wrap_small64 b1 (by rw [← HE1.out]; exact Nat.lt_trans (getD_lt hplt 1) (by decide))
    rw [HE0.out] at hc0'
    rw [HE1.out] at hc1
    clear HRD HRE0 hc0 hg hpl hplt hag hx HD HG HPL hbs1 hs1 hbp hlt0 hlt1 hnm hq
    have i2 : (2 : Int) ≤ (c1 : Int) := by omega
    have i6 : (6 : Int) ≤ (c1 : Int) := by omega
    have i12 : (12 : Int) ≤ (c1 : Int) := by omega
    have i18 : (18 : Int) ≤ (c1 : Int) := by omega
    have i23 : (23 : Int) ≤ (c1 : Int) := by omega
    have j2 : c1 ≠ 2 := by omega
    have j6 : c1 ≠ 6 := by omega
    have j12 : c1 ≠ 12 := by omega
    have j18 : c1 ≠ 18 := by omega
    have hB1 := Lib.hid hb1.size
    clear hb1
    go_upto_region 4 with fail
    go_cut [8] (fun s wx => s = .pointer (some ⟨w1.heap.size, 0, none⟩) ∧ Hid (wx.heap[w1.heap.size]? = some (.cells #[.int .i64 (b0 : Int), .int .i64 (b1 : Int), .int .i64 (nm 2 4 : Int), .int .i64 (nm 6 6 : Int), .int .i64 (nm 12 6 : Int), .int .i64 (nm 18 5 : Int)] 23 (0, 0)) ∧ Below w1.heap.size w1 wx))
    case first =>
      go_region_held3 (fun W => W.cell? ad = some (.int .u8 (b0 : Int)) ∧ W.cell? ⟨ad.block, ad.off + 1, none⟩ = some (.int .u8 (b1 : Int)))
        (first
          | go_keep)
        (first
          | (go_at_call 40; refine (NU.out _ _ _ (by decide) (by first | exact HB0.out | exact HBA.out _)).mono ?_; rintro e w' ⟨rfl, rfl⟩))
      all_goals
        (try go_wp2_with fail)
        go_meet
        exact ⟨rfl, drew_alloc_new w1 _, ((Below.refl _ w1).alloc (Nat.le_refl _) _).drew⟩
    case rest =>
      obtain ⟨rfl, HC⟩ := hcut
      generalize wc = w2 at *
      have HS2 := Lib.hid (HS1.out.next HC.out.2 (by rfl) (by rfl) (by rfl) (by rfl))
      clear hc0' hc1 i2 i6 i12 i18 i23 j2 j6 j12 j18 ewn eb0 eb1 NU HBA HB0 hne hne' hblk' HS0
      obtain ⟨z0, z1, z2, z3, z4, z5⟩ := six_cells HC.out.1
      have HV := Lib.hid (fun W => refhdvalid_any (b0 : Int) (b1 : Int) (nm 2 4 : Int) (nm 6 6 : Int) (nm 12 6 : Int) (nm 18 5 : Int) W)
      by_cases hv : Hd.valid ⟨(b0 : Int), (b1 : Int), (nm 2 4 : Int), (nm 6 6 : Int), (nm 12 6 : Int), (nm 18 5 : Int)⟩
      · have HRE := Lib.hid (fun W => refhdenc_any (b0 : Int) (b1 : Int) (nm 2 4 : Int) (nm 6 6 : Int) (nm 12 6 : Int) (nm 18 5 : Int) x W hv HX.out)
        have HEL := Lib.hid (Hd.enc_length x ⟨(b0 : Int), (b1 : Int), (nm 2 4 : Int), (nm 6 6 : Int), (nm 12 6 : Int), (nm 18 5 : Int)⟩)
        have HGH : Hid (HGd ↔ Hd.enc x ⟨(b0 : Int), (b1 : Int), (nm 2 4 : Int), (nm 6 6 : Int), (nm 12 6 : Int), (nm 18 5 : Int)⟩ = l) := HGG.out.trans (Iff.trans ⟨fun h => h.2, fun h => ⟨hv, h⟩⟩ HAG.out.symm)
        rw [decide_eq_true hv] at HV
        clear hv HGG HAG HX
        generalize Hd.enc x ⟨(b0 : Int), (b1 : Int), (nm 2 4 : Int), (nm 6 6 : Int), (nm 12 6 : Int), (nm 18 5 : Int)⟩ = en at *
        go_wp2_with fail
        refine (HV.out _).mono ?_
        rintro r w3 ⟨rfl, hb3⟩
        have HS3 := Lib.hid (HS2.out.next hb3 (by rfl) (by rfl) (by rfl) (by rfl))
        have HC3 : Hid (w3.heap[w1.heap.size]? = some (.cells #[.int .i64 (b0 : Int), .int .i64 (b1 : Int), .int .i64 (nm 2 4 : Int), .int .i64 (nm 6 6 : Int), .int .i64 (nm 12 6 : Int), .int .i64 (nm 18 5 : Int)] 23 (0, 0))) := (hb3.block _ (Array.getElem?_eq_some_iff.1 HC.out.1).1).trans HC.out.1
        clear hb3 z0 z1 z2 z3 z4 z5
        obtain ⟨z0, z1, z2, z3, z4, z5⟩ := six_cells HC3.out
        go_wp2_with fail
        refine (HRE.out _).mono ?_
        rintro r w4 ⟨A4, c4, rfl, -, hbs4, hb4⟩
        have HS4 := Lib.hid (HS3.out.next hb4 (by rfl) (by rfl) (by rfl) (by rfl))
        have HC4 : Hid (w4.heap[w1.heap.size]? = some (.cells #[.int .i64 (b0 : Int), .int .i64 (b1 : Int), .int .i64 (nm 2 4 : Int), .int .i64 (nm 6 6 : Int), .int .i64 (nm 12 6 : Int), .int .i64 (nm 18 5 : Int)] 23 (0, 0))) := (hb4.block _ (Array.getElem?_eq_some_iff.1 HC3.out).1).trans HC3.out
        have HQ := Lib.hid (refeq_any A4 A w4.heap.size B 64 n c4 c en l w4 HEL.out hl (by decide) hn hbs4 (HBL.out _ HS4.out.2))
        clear hb4 hbs4 z0 z1 z2 z3 z4 z5
        by_cases he : en = l
        · rw [decide_eq_true he] at HQ
          have HF := Lib.hid (HGH.out.2 he)
          clear he HGH
          go_wp2_with fail
          refine HQ.out.mono ?_
          rintro r w5 ⟨rfl, k5, rfl⟩
          obtain ⟨z0, z1, z2, z3, z4, z5⟩ := six_cells HC4.out
          obtain ⟨y0, y1, y2, y3, y4, y5⟩ := six_cells HS4.out.1
          obtain ⟨f0, f1, f2, f3, f4, f5⟩ := six_frozen HS4.out.1
          go_wp2_with fail
          (try simp only [Exit.inBlock, Exit.then])
          refine bodyPost_ret (results_row2 rfl _ _ w.heap.size _ _ (0, 0) _ rfl (stored6 (w := w4.drewN k5) HS4.out.1) Tryd.underlying23 rfl (by kernel_rfl)) rfl ?_
          exact .inl ⟨HF.out, rfl, res6 (w1 := w4.drewN k5) ⟨HS4.out.1, below_drawn HS4.out.2 k5⟩⟩
        · rw [decide_eq_false he] at HQ
          have HF : Hid (¬ HGd) := fun h => he (HGH.out.1 h)
          clear he HGH
          go_wp2_with fail
          refine HQ.out.mono ?_
          rintro r w5 ⟨rfl, k5, rfl⟩
          obtain ⟨y0, y1, y2, y3, y4, y5⟩ := six_cells HS4.out.1
          obtain ⟨f0, f1, f2, f3, f4, f5⟩ := six_frozen HS4.out.1
          go_wp2_with fail
          (try simp only [Exit.inBlock, Exit.then])
          refine bodyPost_ret (results_row2 rfl _ _ w.heap.size _ _ (0, 0) _ rfl (stored6 (w := w4.drewN k5) HS4.out.1) Tryd.underlying23 rfl (by kernel_rfl)) rfl ?_
          exact .inr ⟨HF.out, rfl, res6 (w1 := w4.drewN k5) ⟨HS4.out.1, below_drawn HS4.out.2 k5⟩⟩
      · have HF : Hid (¬ HGd) := fun h => hv (HGG.out.1 h).1
        rw [decide_eq_false hv] at HV
        clear hv HGG HAG
        go_wp2_with fail
        refine (HV.out _).mono ?_
        rintro r w3 ⟨rfl, hb3⟩
        have HS3 := Lib.hid (HS2.out.next hb3 (by rfl) (by rfl) (by rfl) (by rfl))
        clear hb3 z0 z1 z2 z3 z4 z5
        obtain ⟨y0, y1, y2, y3, y4, y5⟩ := six_cells HS3.out.1
        obtain ⟨f0, f1, f2, f3, f4, f5⟩ := six_frozen HS3.out.1
        go_wp2_with fail
        (try simp only [Exit.inBlock, Exit.then])
        refine bodyPost_ret (results_row2 rfl _ _ w.heap.size _ _ (0, 0) _ rfl (stored6 HS3.out.1) Tryd.underlying23 rfl (by kernel_rfl)) rfl ?_
        exact .inr ⟨HF.out, rfl, res6 HS3.out⟩
  · have HS1 := Lib.hid (HS0.out.next hb1 (by rfl) (by rfl) (by rfl) (by rfl))
    have HF : Hid (¬ HGd) := fun h => hg (HG.out.1 h).1
    clear hb1 hg
    obtain ⟨y0, y1, y2, y3, y4, y5⟩ := six_cells HS1.out.1
    obtain ⟨f0, f1, f2, f3, f4, f5⟩ := six_frozen HS1.out.1
    go_wp2_with fail
    (try simp only [Exit.inBlock, Exit.then])
    refine bodyPost_ret (results_row2 rfl _ _ w.heap.size _ _ (0, 0) _ rfl (stored6 HS1.out.1) Tryd.underlying23 rfl (by kernel_rfl)) rfl ?_
    exact .inr ⟨HF.out, rfl, res6 HS1.out⟩
end Go.Proofs.YtjfgnojmdbfnmaaDoor
