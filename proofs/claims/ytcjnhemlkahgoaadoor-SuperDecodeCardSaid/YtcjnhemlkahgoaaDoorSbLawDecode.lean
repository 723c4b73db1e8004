/-
  The walk of the law SuperDecode.
-/
import Derived.Test.YtcjnhemlkahgoaaDoorSbUse
namespace Go.Proofs.YtcjnhemlkahgoaaDoor
open Go.RowKit
set_option maxHeartbeats 8000000 in
theorem superdecode_any (A0 : Option Addr) (n0 c0 : Nat) (l0 : List Nat) (A1 : Option Addr) (n1 c1 : Nat) (l1 : List Nat) (x : Int) (w : World) (hs0 : SlIs A0 n0 c0) (hb0 : Hid (l0.length = n0 ∧ Bs w w.heap.size A0 l0)) (hs1 : SlIs A1 n1 c1) (hb1 : Hid (l1.length = n1 ∧ Bs w w.heap.size A1 l1)) (ht : Hid (TabW w)) (hz : 0 < w.heap.size) :
    Calls Tryd.prog 3 #[.slice A0 n0 c0, .slice A1 n1 c1, .int .i64 x] w fun r w' => r = .returned (.bool true) ∧ Below w.heap.size w w' := by
  obtain ⟨m0, hm0⟩ := min_is n0 70
  obtain ⟨m1, hm1⟩ := min_is n1 59
  have hm70 : m0 ≤ 70 := by unfold MinIs at hm0; omega
  have hm59 : m1 ≤ 59 := by unfold MinIs at hm1; omega
  have HTB : Hid (∀ W, Below w.heap.size w W → TabW W ∧ 0 < W.heap.size) := fun W hW => ⟨ht.out.below hW hz, Nat.lt_of_lt_of_le hz hW.size⟩
  have AW : Hid (∀ W, Below w.heap.size w W → Calls Tryd.prog 11 #[] W fun r w' => r = .returned (.bool true) ∧ Below W.heap.size W w') := fun W hW => sbawake_any W (HTB.out W hW).1 (HTB.out W hW).2
  obtain ⟨a1, a2⟩ := min_bs hb0.out.1 hb0.out.2 hm0
  obtain ⟨b1, b2⟩ := min_bs hb1.out.1 hb1.out.2 hm1
  obtain ⟨s, t, hsf, hgot⟩ := dec_one x (l0.take m0)
  have HP : Hid (∀ W, Below w.heap.size w W → Calls Tryd.prog 8 #[.slice A0 m0 c0, .int .i64 x] W (GotS W s t)) := fun W hW =>
    (sbdecode_any x A0 w.heap.size m0 c0 _ W hW.size (min_sl hs0 hm0) a1 (a2.below hW (Nat.le_refl _)) (HTB.out W hW).1 (HTB.out W hW).2).mono fun r w' h => hgot W r w' h
  have HR : Hid (∀ W, Below w.heap.size w W → Calls Tryd.prog 9 #[.slice A0 m0 c0, .int .i64 x] W (GotS W s t)) := fun W hW =>
    (refsbdec_any x A0 w.heap.size m0 c0 _ W hW.size (min_sl hs0 hm0) a1 (a2.below hW (Nat.le_refl _)) (by omega)).mono fun r w' h => hgot W r w' h
  have HEQ : Hid (∀ (u : Sb.S), u.f.length ≤ 2 → ∀ (A A' : Option Addr) (n c n' c' : Nat) (W : World), SbAt W W.heap.size u A n c → SbAt W W.heap.size u A' n' c' → Calls Tryd.prog 10 #[.agg #[.int .i64 u.gen, .int .i64 u.phase, .int .i64 u.mig, .int .i64 u.tail, .int .i64 u.now, .int .i64 u.t.id, .int .i64 u.t.ver, .int .i64 u.t.rs, .int .i64 u.t.reg, .int .i64 u.h.id, .int .i64 u.h.ver, .int .i64 u.h.rs, .int .i64 u.h.reg, .slice A n c], .agg #[.int .i64 u.gen, .int .i64 u.phase, .int .i64 u.mig, .int .i64 u.tail, .int .i64 u.now, .int .i64 u.t.id, .int .i64 u.t.ver, .int .i64 u.t.rs, .int .i64 u.t.reg, .int .i64 u.h.id, .int .i64 u.h.ver, .int .i64 u.h.rs, .int .i64 u.h.reg, .slice A' n' c']] W fun r w' => r = .returned (.bool true) ∧ Below W.heap.size W w') := fun u hu A A' n c n' c' W h h' => by
    have k := refeq_sb u u (by omega) (by omega) A A' n c n' c' W h h'
    rwa [Sb.same_self] at k
  have HEN : Hid (0 ≤ x ∧ x < 1048576 → ∀ W, Below w.heap.size w W → Calls Tryd.prog 12 #[.int .i64 3, .int .i64 0, .int .i64 x, .slice A1 m1 c1] W fun r w' => ∃ A3 c3, r = .returned (.slice A3 64 c3) ∧ SlIs A3 64 c3 ∧ Bs w' w'.heap.size A3 (Fr.enc 3 0 x (l1.take m1)) ∧ Below W.heap.size W w') := fun hx W hW => by
    obtain ⟨k, rfl⟩ := Int.eq_ofNat_of_zero_le hx.1
    exact reffrenc_any 3 0 k A1 w.heap.size m1 c1 _ W (by decide) (by decide) (by omega) hW.size (min_sl hs1 hm1) b1 hm59 (b2.below hW (Nat.le_refl _))
  obtain ⟨s', t', hsf', hgot'⟩ := dec_one x (Fr.enc 3 0 x (l1.take m1))
  have HLE : Hid ((Fr.enc 3 0 x (l1.take m1)).length = 64) := Fr.enc_length _ _ _ _ (by rw [b1]; exact hm59)
  have HP2 : Hid (∀ W A3 B3 c3, Below w.heap.size w W → B3 ≤ W.heap.size → SlIs A3 64 c3 → Bs W B3 A3 (Fr.enc 3 0 x (l1.take m1)) → Calls Tryd.prog 8 #[.slice A3 64 c3, .int .i64 x] W (GotS W s' t')) := fun W A3 B3 c3 hW h0 h1 h2 =>
    (sbdecode_any x A3 B3 64 c3 _ W h0 h1 HLE.out h2 (HTB.out W hW).1 (HTB.out W hW).2).mono fun r w' h => hgot' W r w' h
  have HR2 : Hid (∀ W A3 B3 c3, Below w.heap.size w W → B3 ≤ W.heap.size → SlIs A3 64 c3 → Bs W B3 A3 (Fr.enc 3 0 x (l1.take m1)) → Calls Tryd.prog 9 #[.slice A3 64 c3, .int .i64 x] W (GotS W s' t')) := fun W A3 B3 c3 hW h0 h1 h2 =>
    (refsbdec_any x A3 B3 64 c3 _ W h0 h1 HLE.out h2 (by decide)).mono fun r w' h => hgot' W r w' h
  have HSF := Lib.hid hsf
  have HSF' := Lib.hid hsf'
  have hnc0 := hs0.2.1
  have hnc1 := hs1.2.1
  have hc63 := hs0.2.2
  have hd63 := hs1.2.2
  have HNA := Lib.hid hs0.1
  have HNB := Lib.hid hs1.1
  have htt : (t != t) = false := by cases t <;> rfl
  have htt' : (t' == t') = true := by cases t' <;> rfl
  clear hgot hgot' hsf hsf' a1 a2 b1 b2 hs0 hs1 hb0 hb1 ht
  generalize Fr.enc 3 0 x (l1.take m1) = en at *
  unfold GotS at HP HR HP2 HR2
  go_enter Tryd.func3, Tryd.ntmps3
  go_upto_region 1 with fail
  go_cut [0, 1] (fun u v wx => u = .slice A0 m0 c0 ∧ v = .slice A1 m1 c1 ∧ wx = w.drew)
  case first =>
    unfold MinIs at hm0 hm1
    rcases hm0 with ⟨i0, rfl⟩ | ⟨i0, rfl⟩
    all_goals
      rcases hm1 with ⟨i1, rfl⟩ | ⟨i1, rfl⟩
      all_goals
        go_region
        all_goals
          (try go_wp2_with fail)
          go_meet
          exact ⟨rfl, rfl, rfl⟩
  case rest =>
    obtain ⟨rfl, rfl, rfl⟩ := hcut
    have HB1 : Hid (Below w.heap.size w w.drew) := (Below.refl _ w).drew
    clear hm0 hm1 hnc0 hnc1 hc63 hd63 hm70 hm59
    generalize w.drew = w1 at *
    go_wp2_with fail
    refine (HP.out _ HB1.out).mono ?_
    rintro r w2 ⟨A2, n2, c2, rfl, ⟨hat2, -⟩, hb2⟩
    have HB2 : Hid (Below w.heap.size w (w2.alloc (.cells #[.int .i64 s.gen, .int .i64 s.phase, .int .i64 s.mig, .int .i64 s.tail, .int .i64 s.now, .int .i64 s.t.id, .int .i64 s.t.ver, .int .i64 s.t.rs, .int .i64 s.t.reg, .int .i64 s.h.id, .int .i64 s.h.ver, .int .i64 s.h.rs, .int .i64 s.h.reg, .slice A2 n2 c2] 27))) := below_made (HB1.out.trans (hb2.mono HB1.out.size)) (Nat.le_refl _) _
    have HN2 : Hid ((w2.alloc (.cells #[.int .i64 s.gen, .int .i64 s.phase, .int .i64 s.mig, .int .i64 s.tail, .int .i64 s.now, .int .i64 s.t.id, .int .i64 s.t.ver, .int .i64 s.t.rs, .int .i64 s.t.reg, .int .i64 s.h.id, .int .i64 s.h.ver, .int .i64 s.h.rs, .int .i64 s.h.reg, .slice A2 n2 c2] 27)).heap[w2.heap.size]? = some (.cells #[.int .i64 s.gen, .int .i64 s.phase, .int .i64 s.mig, .int .i64 s.tail, .int .i64 s.now, .int .i64 s.t.id, .int .i64 s.t.ver, .int .i64 s.t.rs, .int .i64 s.t.reg, .int .i64 s.h.id, .int .i64 s.h.ver, .int .i64 s.h.rs, .int .i64 s.h.reg, .slice A2 n2 c2] 27 (0, 0))) := heap_alloc_new _ _
    have HA2 : Hid (SbAt (w2.alloc (.cells #[.int .i64 s.gen, .int .i64 s.phase, .int .i64 s.mig, .int .i64 s.tail, .int .i64 s.now, .int .i64 s.t.id, .int .i64 s.t.ver, .int .i64 s.t.rs, .int .i64 s.t.reg, .int .i64 s.h.id, .int .i64 s.h.ver, .int .i64 s.h.rs, .int .i64 s.h.reg, .slice A2 n2 c2] 27)) (w2.alloc (.cells #[.int .i64 s.gen, .int .i64 s.phase, .int .i64 s.mig, .int .i64 s.tail, .int .i64 s.now, .int .i64 s.t.id, .int .i64 s.t.ver, .int .i64 s.t.rs, .int .i64 s.t.reg, .int .i64 s.h.id, .int .i64 s.h.ver, .int .i64 s.h.rs, .int .i64 s.h.reg, .slice A2 n2 c2] 27)).heap.size s A2 n2 c2) := hat2.on (below_new _ _)
    have HL2 : Hid (w.heap.size ≤ w2.heap.size) := (HB1.out.trans (hb2.mono HB1.out.size)).size
    clear hat2 hb2
    go_upto_region 3 with fail
    generalize w2.alloc (.cells #[.int .i64 s.gen, .int .i64 s.phase, .int .i64 s.mig, .int .i64 s.tail, .int .i64 s.now, .int .i64 s.t.id, .int .i64 s.t.ver, .int .i64 s.t.rs, .int .i64 s.t.reg, .int .i64 s.h.id, .int .i64 s.h.ver, .int .i64 s.h.rs, .int .i64 s.h.reg, .slice A2 n2 c2] 27) = w3 at *
    go_wp2_with fail
    refine (HR.out _ HB2.out).mono ?_
    rintro r w4 ⟨A4, n4, c4, rfl, ⟨hat4, -⟩, hb4⟩
    have HB4 : Hid (Below w.heap.size w (w4.alloc (.cells #[.int .i64 s.gen, .int .i64 s.phase, .int .i64 s.mig, .int .i64 s.tail, .int .i64 s.now, .int .i64 s.t.id, .int .i64 s.t.ver, .int .i64 s.t.rs, .int .i64 s.t.reg, .int .i64 s.h.id, .int .i64 s.h.ver, .int .i64 s.h.rs, .int .i64 s.h.reg, .slice A4 n4 c4] 27))) := below_made (HB2.out.trans (hb4.mono HB2.out.size)) (Nat.le_refl _) _
    have HN4 : Hid ((w4.alloc (.cells #[.int .i64 s.gen, .int .i64 s.phase, .int .i64 s.mig, .int .i64 s.tail, .int .i64 s.now, .int .i64 s.t.id, .int .i64 s.t.ver, .int .i64 s.t.rs, .int .i64 s.t.reg, .int .i64 s.h.id, .int .i64 s.h.ver, .int .i64 s.h.rs, .int .i64 s.h.reg, .slice A4 n4 c4] 27)).heap[w4.heap.size]? = some (.cells #[.int .i64 s.gen, .int .i64 s.phase, .int .i64 s.mig, .int .i64 s.tail, .int .i64 s.now, .int .i64 s.t.id, .int .i64 s.t.ver, .int .i64 s.t.rs, .int .i64 s.t.reg, .int .i64 s.h.id, .int .i64 s.h.ver, .int .i64 s.h.rs, .int .i64 s.h.reg, .slice A4 n4 c4] 27 (0, 0))) := heap_alloc_new _ _
    have HA4 : Hid (SbAt (w4.alloc (.cells #[.int .i64 s.gen, .int .i64 s.phase, .int .i64 s.mig, .int .i64 s.tail, .int .i64 s.now, .int .i64 s.t.id, .int .i64 s.t.ver, .int .i64 s.t.rs, .int .i64 s.t.reg, .int .i64 s.h.id, .int .i64 s.h.ver, .int .i64 s.h.rs, .int .i64 s.h.reg, .slice A4 n4 c4] 27)) (w4.alloc (.cells #[.int .i64 s.gen, .int .i64 s.phase, .int .i64 s.mig, .int .i64 s.tail, .int .i64 s.now, .int .i64 s.t.id, .int .i64 s.t.ver, .int .i64 s.t.rs, .int .i64 s.t.reg, .int .i64 s.h.id, .int .i64 s.h.ver, .int .i64 s.h.rs, .int .i64 s.h.reg, .slice A4 n4 c4] 27)).heap.size s A4 n4 c4) := hat4.on (below_new _ _)
    have HM4 : Hid ((w4.alloc (.cells #[.int .i64 s.gen, .int .i64 s.phase, .int .i64 s.mig, .int .i64 s.tail, .int .i64 s.now, .int .i64 s.t.id, .int .i64 s.t.ver, .int .i64 s.t.rs, .int .i64 s.t.reg, .int .i64 s.h.id, .int .i64 s.h.ver, .int .i64 s.h.rs, .int .i64 s.h.reg, .slice A4 n4 c4] 27)).heap[w2.heap.size]? = some (.cells #[.int .i64 s.gen, .int .i64 s.phase, .int .i64 s.mig, .int .i64 s.tail, .int .i64 s.now, .int .i64 s.t.id, .int .i64 s.t.ver, .int .i64 s.t.rs, .int .i64 s.t.reg, .int .i64 s.h.id, .int .i64 s.h.ver, .int .i64 s.h.rs, .int .i64 s.h.reg, .slice A2 n2 c2] 27 (0, 0))) := box_on (box_on HN2.out hb4) (below_new _ _)
    have HC4 : Hid (SbAt (w4.alloc (.cells #[.int .i64 s.gen, .int .i64 s.phase, .int .i64 s.mig, .int .i64 s.tail, .int .i64 s.now, .int .i64 s.t.id, .int .i64 s.t.ver, .int .i64 s.t.rs, .int .i64 s.t.reg, .int .i64 s.h.id, .int .i64 s.h.ver, .int .i64 s.h.rs, .int .i64 s.h.reg, .slice A4 n4 c4] 27)) (w4.alloc (.cells #[.int .i64 s.gen, .int .i64 s.phase, .int .i64 s.mig, .int .i64 s.tail, .int .i64 s.now, .int .i64 s.t.id, .int .i64 s.t.ver, .int .i64 s.t.rs, .int .i64 s.t.reg, .int .i64 s.h.id, .int .i64 s.h.ver, .int .i64 s.h.rs, .int .i64 s.h.reg, .slice A4 n4 c4] 27)).heap.size s A2 n2 c2) := (HA2.out.on hb4).on (below_new _ _)
    have HL4 : Hid (w2.heap.size < w4.heap.size) := box_lt (box_on HN2.out hb4)
    clear hat4 hb4 HN2 HA2
    go_upto_region 4 with fail
    generalize w4.alloc (.cells #[.int .i64 s.gen, .int .i64 s.phase, .int .i64 s.mig, .int .i64 s.tail, .int .i64 s.now, .int .i64 s.t.id, .int .i64 s.t.ver, .int .i64 s.t.rs, .int .i64 s.t.reg, .int .i64 s.h.id, .int .i64 s.h.ver, .int .i64 s.h.rs, .int .i64 s.h.reg, .slice A4 n4 c4] 27) = w5 at *
    obtain ⟨x0, x1, x2, x3, x4, x5, x6, x7, x8, x9, x10, x11, x12, x13⟩ := cells14 HM4.out
    obtain ⟨y0, y1, y2, y3, y4, y5, y6, y7, y8, y9, y10, y11, y12, y13⟩ := cells14 HN4.out
    have HQ := Lib.hid (HEQ.out s HSF.out A2 A4 n2 c2 n4 c4 w5 HC4.out HA4.out)
    by_cases hx : 0 ≤ x ∧ x < 1048576
    · have HEN2 := Lib.hid (HEN.out hx)
      have d0 : decide (x < 0) = false := decide_eq_false (by omega)
      have d1 : decide (1048576 ≤ x) = false := decide_eq_false (by omega)
      clear hx HEN
      go_wp2_with (go_at_call 10; refine HQ.out.mono ?_; rintro r w6 ⟨rfl, hb6⟩; have HB6 : Hid (Below w.heap.size w w6) := HB4.out.trans (hb6.mono HB4.out.size); have HX6 : Hid (w6.heap[w2.heap.size]? = some _) := box_on HM4.out hb6; have HY6 : Hid (w6.heap[w4.heap.size]? = some _) := box_on HN4.out hb6; clear hb6 x0 x1 x2 x3 x4 x5 x6 x7 x8 x9 x10 x11 x12 x13 y0 y1 y2 y3 y4 y5 y6 y7 y8 y9 y10 y11 y12 y13)
      go_wp2_with fail
      refine (HEN2.out _ HB6.out).mono ?_
      rintro r w7 ⟨A3, c3, rfl, hs3, hbs3, hb7⟩
      have HB7 : Hid (Below w.heap.size w w7) := HB6.out.trans (hb7.mono HB6.out.size)
      have HX7 : Hid (w7.heap[w2.heap.size]? = some _) := box_on HX6.out hb7
      have HY7 : Hid (w7.heap[w4.heap.size]? = some _) := box_on HY6.out hb7
      have HS3 := Lib.hid (And.intro hs3 hbs3)
      clear hb7 hs3 hbs3 HX6 HY6
      go_wp2_with fail
      refine (HP2.out _ A3 w7.heap.size c3 HB7.out (Nat.le_refl _) HS3.out.1 HS3.out.2).mono ?_
      rintro r w8 ⟨A8, n8, c8, rfl, ⟨hat8, hfr8⟩, hb8⟩
      have HX8 : Hid (w8.heap[w2.heap.size]? = some _) := box_on HX7.out hb8
      have HY8 : Hid (w8.heap[w4.heap.size]? = some _) := box_on HY7.out hb8
      have HG8 := Lib.hid (stored14_grown w8 w2.heap.size (.int .i64 s'.gen) (.int .i64 s'.phase) (.int .i64 s'.mig) (.int .i64 s'.tail) (.int .i64 s'.now) (.int .i64 s'.t.id) (.int .i64 s'.t.ver) (.int .i64 s'.t.rs) (.int .i64 s'.t.reg) (.int .i64 s'.h.id) (.int .i64 s'.h.ver) (.int .i64 s'.h.rs) (.int .i64 s'.h.reg) (.slice A8 n8 c8))
      have HZ8 := Lib.hid (stored14 (w := w8) (r := w2.heap.size) (t := 27) (b0 := .int .i64 s'.gen) (b1 := .int .i64 s'.phase) (b2 := .int .i64 s'.mig) (b3 := .int .i64 s'.tail) (b4 := .int .i64 s'.now) (b5 := .int .i64 s'.t.id) (b6 := .int .i64 s'.t.ver) (b7 := .int .i64 s'.t.rs) (b8 := .int .i64 s'.t.reg) (b9 := .int .i64 s'.h.id) (b10 := .int .i64 s'.h.ver) (b11 := .int .i64 s'.h.rs) (b12 := .int .i64 s'.h.reg) (b13 := .slice A8 n8 c8) HX8.out)
      have HB8 : Hid (Below w.heap.size w ((((((((((((((w8.setCell ⟨w2.heap.size, 0, none⟩ (.int .i64 s'.gen)).setCell ⟨w2.heap.size, 1, none⟩ (.int .i64 s'.phase)).setCell ⟨w2.heap.size, 2, none⟩ (.int .i64 s'.mig)).setCell ⟨w2.heap.size, 3, none⟩ (.int .i64 s'.tail)).setCell ⟨w2.heap.size, 4, none⟩ (.int .i64 s'.now)).setCell ⟨w2.heap.size, 5, none⟩ (.int .i64 s'.t.id)).setCell ⟨w2.heap.size, 6, none⟩ (.int .i64 s'.t.ver)).setCell ⟨w2.heap.size, 7, none⟩ (.int .i64 s'.t.rs)).setCell ⟨w2.heap.size, 8, none⟩ (.int .i64 s'.t.reg)).setCell ⟨w2.heap.size, 9, none⟩ (.int .i64 s'.h.id)).setCell ⟨w2.heap.size, 10, none⟩ (.int .i64 s'.h.ver)).setCell ⟨w2.heap.size, 11, none⟩ (.int .i64 s'.h.rs)).setCell ⟨w2.heap.size, 12, none⟩ (.int .i64 s'.h.reg)).setCell ⟨w2.heap.size, 13, none⟩ (.slice A8 n8 c8))) := (HB7.out.trans (hb8.mono HB7.out.size)).trans (below_of_grown HG8.out HL2.out (HB7.out.trans (hb8.mono HB7.out.size)).size)
      have HA8 : Hid (SbAt ((((((((((((((w8.setCell ⟨w2.heap.size, 0, none⟩ (.int .i64 s'.gen)).setCell ⟨w2.heap.size, 1, none⟩ (.int .i64 s'.phase)).setCell ⟨w2.heap.size, 2, none⟩ (.int .i64 s'.mig)).setCell ⟨w2.heap.size, 3, none⟩ (.int .i64 s'.tail)).setCell ⟨w2.heap.size, 4, none⟩ (.int .i64 s'.now)).setCell ⟨w2.heap.size, 5, none⟩ (.int .i64 s'.t.id)).setCell ⟨w2.heap.size, 6, none⟩ (.int .i64 s'.t.ver)).setCell ⟨w2.heap.size, 7, none⟩ (.int .i64 s'.t.rs)).setCell ⟨w2.heap.size, 8, none⟩ (.int .i64 s'.t.reg)).setCell ⟨w2.heap.size, 9, none⟩ (.int .i64 s'.h.id)).setCell ⟨w2.heap.size, 10, none⟩ (.int .i64 s'.h.ver)).setCell ⟨w2.heap.size, 11, none⟩ (.int .i64 s'.h.rs)).setCell ⟨w2.heap.size, 12, none⟩ (.int .i64 s'.h.reg)).setCell ⟨w2.heap.size, 13, none⟩ (.slice A8 n8 c8)) ((((((((((((((w8.setCell ⟨w2.heap.size, 0, none⟩ (.int .i64 s'.gen)).setCell ⟨w2.heap.size, 1, none⟩ (.int .i64 s'.phase)).setCell ⟨w2.heap.size, 2, none⟩ (.int .i64 s'.mig)).setCell ⟨w2.heap.size, 3, none⟩ (.int .i64 s'.tail)).setCell ⟨w2.heap.size, 4, none⟩ (.int .i64 s'.now)).setCell ⟨w2.heap.size, 5, none⟩ (.int .i64 s'.t.id)).setCell ⟨w2.heap.size, 6, none⟩ (.int .i64 s'.t.ver)).setCell ⟨w2.heap.size, 7, none⟩ (.int .i64 s'.t.rs)).setCell ⟨w2.heap.size, 8, none⟩ (.int .i64 s'.t.reg)).setCell ⟨w2.heap.size, 9, none⟩ (.int .i64 s'.h.id)).setCell ⟨w2.heap.size, 10, none⟩ (.int .i64 s'.h.ver)).setCell ⟨w2.heap.size, 11, none⟩ (.int .i64 s'.h.rs)).setCell ⟨w2.heap.size, 12, none⟩ (.int .i64 s'.h.reg)).setCell ⟨w2.heap.size, 13, none⟩ (.slice A8 n8 c8)).heap.size s' A8 n8 c8) := (hat8.grown HG8.out (fun k hk ad e => by have := hfr8 ad e; have := box_lt HX7.out; omega)).own
      have HW8 : Hid (((((((((((((((w8.setCell ⟨w2.heap.size, 0, none⟩ (.int .i64 s'.gen)).setCell ⟨w2.heap.size, 1, none⟩ (.int .i64 s'.phase)).setCell ⟨w2.heap.size, 2, none⟩ (.int .i64 s'.mig)).setCell ⟨w2.heap.size, 3, none⟩ (.int .i64 s'.tail)).setCell ⟨w2.heap.size, 4, none⟩ (.int .i64 s'.now)).setCell ⟨w2.heap.size, 5, none⟩ (.int .i64 s'.t.id)).setCell ⟨w2.heap.size, 6, none⟩ (.int .i64 s'.t.ver)).setCell ⟨w2.heap.size, 7, none⟩ (.int .i64 s'.t.rs)).setCell ⟨w2.heap.size, 8, none⟩ (.int .i64 s'.t.reg)).setCell ⟨w2.heap.size, 9, none⟩ (.int .i64 s'.h.id)).setCell ⟨w2.heap.size, 10, none⟩ (.int .i64 s'.h.ver)).setCell ⟨w2.heap.size, 11, none⟩ (.int .i64 s'.h.rs)).setCell ⟨w2.heap.size, 12, none⟩ (.int .i64 s'.h.reg)).setCell ⟨w2.heap.size, 13, none⟩ (.slice A8 n8 c8)).heap[w4.heap.size]? = some (.cells #[.int .i64 s.gen, .int .i64 s.phase, .int .i64 s.mig, .int .i64 s.tail, .int .i64 s.now, .int .i64 s.t.id, .int .i64 s.t.ver, .int .i64 s.t.rs, .int .i64 s.t.reg, .int .i64 s.h.id, .int .i64 s.h.ver, .int .i64 s.h.rs, .int .i64 s.h.reg, .slice A4 n4 c4] 27 (0, 0))) := (HG8.out.block _ (box_lt HY8.out) (fun e => by injection e with e; have := HL4.out; omega)).trans HY8.out
      have HS8 : Hid (Bs ((((((((((((((w8.setCell ⟨w2.heap.size, 0, none⟩ (.int .i64 s'.gen)).setCell ⟨w2.heap.size, 1, none⟩ (.int .i64 s'.phase)).setCell ⟨w2.heap.size, 2, none⟩ (.int .i64 s'.mig)).setCell ⟨w2.heap.size, 3, none⟩ (.int .i64 s'.tail)).setCell ⟨w2.heap.size, 4, none⟩ (.int .i64 s'.now)).setCell ⟨w2.heap.size, 5, none⟩ (.int .i64 s'.t.id)).setCell ⟨w2.heap.size, 6, none⟩ (.int .i64 s'.t.ver)).setCell ⟨w2.heap.size, 7, none⟩ (.int .i64 s'.t.rs)).setCell ⟨w2.heap.size, 8, none⟩ (.int .i64 s'.t.reg)).setCell ⟨w2.heap.size, 9, none⟩ (.int .i64 s'.h.id)).setCell ⟨w2.heap.size, 10, none⟩ (.int .i64 s'.h.ver)).setCell ⟨w2.heap.size, 11, none⟩ (.int .i64 s'.h.rs)).setCell ⟨w2.heap.size, 12, none⟩ (.int .i64 s'.h.reg)).setCell ⟨w2.heap.size, 13, none⟩ (.slice A8 n8 c8)) ((((((((((((((w8.setCell ⟨w2.heap.size, 0, none⟩ (.int .i64 s'.gen)).setCell ⟨w2.heap.size, 1, none⟩ (.int .i64 s'.phase)).setCell ⟨w2.heap.size, 2, none⟩ (.int .i64 s'.mig)).setCell ⟨w2.heap.size, 3, none⟩ (.int .i64 s'.tail)).setCell ⟨w2.heap.size, 4, none⟩ (.int .i64 s'.now)).setCell ⟨w2.heap.size, 5, none⟩ (.int .i64 s'.t.id)).setCell ⟨w2.heap.size, 6, none⟩ (.int .i64 s'.t.ver)).setCell ⟨w2.heap.size, 7, none⟩ (.int .i64 s'.t.rs)).setCell ⟨w2.heap.size, 8, none⟩ (.int .i64 s'.t.reg)).setCell ⟨w2.heap.size, 9, none⟩ (.int .i64 s'.h.id)).setCell ⟨w2.heap.size, 10, none⟩ (.int .i64 s'.h.ver)).setCell ⟨w2.heap.size, 11, none⟩ (.int .i64 s'.h.rs)).setCell ⟨w2.heap.size, 12, none⟩ (.int .i64 s'.h.reg)).setCell ⟨w2.heap.size, 13, none⟩ (.slice A8 n8 c8)).heap.size A3 en) := bs_own (bs_grown (HS3.out.2.below hb8 (Nat.le_refl _)) HG8.out (bs_box HS3.out.2 HX7.out (by rw [HLE.out]; decide)))
      have HF8 : Hid (∀ ad, A8 = some ad → w4.heap.size < ad.block) := fun ad e => Nat.lt_of_lt_of_le (box_lt HY7.out) (hfr8 ad e)
      obtain ⟨x0, x1, x2, x3, x4, x5, x6, x7, x8, x9, x10, x11, x12, x13⟩ := cells14 HX8.out
      obtain ⟨fz0, fz1, fz2, fz3, fz4, fz5, fz6, fz7, fz8, fz9, fz10, fz11, fz12, fz13⟩ := frozen14 HX8.out
      clear hat8 hfr8 hb8 HX7 HY7 HX8 HY8
      go_upto_region 10 with fail
      generalize ((((((((((((((w8.setCell ⟨w2.heap.size, 0, none⟩ (.int .i64 s'.gen)).setCell ⟨w2.heap.size, 1, none⟩ (.int .i64 s'.phase)).setCell ⟨w2.heap.size, 2, none⟩ (.int .i64 s'.mig)).setCell ⟨w2.heap.size, 3, none⟩ (.int .i64 s'.tail)).setCell ⟨w2.heap.size, 4, none⟩ (.int .i64 s'.now)).setCell ⟨w2.heap.size, 5, none⟩ (.int .i64 s'.t.id)).setCell ⟨w2.heap.size, 6, none⟩ (.int .i64 s'.t.ver)).setCell ⟨w2.heap.size, 7, none⟩ (.int .i64 s'.t.rs)).setCell ⟨w2.heap.size, 8, none⟩ (.int .i64 s'.t.reg)).setCell ⟨w2.heap.size, 9, none⟩ (.int .i64 s'.h.id)).setCell ⟨w2.heap.size, 10, none⟩ (.int .i64 s'.h.ver)).setCell ⟨w2.heap.size, 11, none⟩ (.int .i64 s'.h.rs)).setCell ⟨w2.heap.size, 12, none⟩ (.int .i64 s'.h.reg)).setCell ⟨w2.heap.size, 13, none⟩ (.slice A8 n8 c8)) = w9 at *
      clear x0 x1 x2 x3 x4 x5 x6 x7 x8 x9 x10 x11 x12 x13 fz0 fz1 fz2 fz3 fz4 fz5 fz6 fz7 fz8 fz9 fz10 fz11 fz12 fz13 HG8
      go_wp2_with fail
      refine (HR2.out _ A3 w9.heap.size c3 HB8.out (Nat.le_refl _) HS3.out.1 HS8.out).mono ?_
      rintro r w10 ⟨A9, n9, c9, rfl, ⟨hat9, hfr9⟩, hb9⟩
      have HX10 : Hid (w10.heap[w2.heap.size]? = some _) := box_on HZ8.out hb9
      have HY10 : Hid (w10.heap[w4.heap.size]? = some _) := box_on HW8.out hb9
      have HG10 := Lib.hid (stored14_grown w10 w4.heap.size (.int .i64 s'.gen) (.int .i64 s'.phase) (.int .i64 s'.mig) (.int .i64 s'.tail) (.int .i64 s'.now) (.int .i64 s'.t.id) (.int .i64 s'.t.ver) (.int .i64 s'.t.rs) (.int .i64 s'.t.reg) (.int .i64 s'.h.id) (.int .i64 s'.h.ver) (.int .i64 s'.h.rs) (.int .i64 s'.h.reg) (.slice A9 n9 c9))
      have HZ10 := Lib.hid (stored14 (w := w10) (r := w4.heap.size) (t := 27) (b0 := .int .i64 s'.gen) (b1 := .int .i64 s'.phase) (b2 := .int .i64 s'.mig) (b3 := .int .i64 s'.tail) (b4 := .int .i64 s'.now) (b5 := .int .i64 s'.t.id) (b6 := .int .i64 s'.t.ver) (b7 := .int .i64 s'.t.rs) (b8 := .int .i64 s'.t.reg) (b9 := .int .i64 s'.h.id) (b10 := .int .i64 s'.h.ver) (b11 := .int .i64 s'.h.rs) (b12 := .int .i64 s'.h.reg) (b13 := .slice A9 n9 c9) HY10.out)
      have HB10 : Hid (Below w.heap.size w ((((((((((((((w10.setCell ⟨w4.heap.size, 0, none⟩ (.int .i64 s'.gen)).setCell ⟨w4.heap.size, 1, none⟩ (.int .i64 s'.phase)).setCell ⟨w4.heap.size, 2, none⟩ (.int .i64 s'.mig)).setCell ⟨w4.heap.size, 3, none⟩ (.int .i64 s'.tail)).setCell ⟨w4.heap.size, 4, none⟩ (.int .i64 s'.now)).setCell ⟨w4.heap.size, 5, none⟩ (.int .i64 s'.t.id)).setCell ⟨w4.heap.size, 6, none⟩ (.int .i64 s'.t.ver)).setCell ⟨w4.heap.size, 7, none⟩ (.int .i64 s'.t.rs)).setCell ⟨w4.heap.size, 8, none⟩ (.int .i64 s'.t.reg)).setCell ⟨w4.heap.size, 9, none⟩ (.int .i64 s'.h.id)).setCell ⟨w4.heap.size, 10, none⟩ (.int .i64 s'.h.ver)).setCell ⟨w4.heap.size, 11, none⟩ (.int .i64 s'.h.rs)).setCell ⟨w4.heap.size, 12, none⟩ (.int .i64 s'.h.reg)).setCell ⟨w4.heap.size, 13, none⟩ (.slice A9 n9 c9))) := (HB8.out.trans (hb9.mono HB8.out.size)).trans (below_of_grown HG10.out (Nat.le_trans HL2.out (Nat.le_of_lt HL4.out)) (HB8.out.trans (hb9.mono HB8.out.size)).size)
      have HA10 : Hid (SbAt ((((((((((((((w10.setCell ⟨w4.heap.size, 0, none⟩ (.int .i64 s'.gen)).setCell ⟨w4.heap.size, 1, none⟩ (.int .i64 s'.phase)).setCell ⟨w4.heap.size, 2, none⟩ (.int .i64 s'.mig)).setCell ⟨w4.heap.size, 3, none⟩ (.int .i64 s'.tail)).setCell ⟨w4.heap.size, 4, none⟩ (.int .i64 s'.now)).setCell ⟨w4.heap.size, 5, none⟩ (.int .i64 s'.t.id)).setCell ⟨w4.heap.size, 6, none⟩ (.int .i64 s'.t.ver)).setCell ⟨w4.heap.size, 7, none⟩ (.int .i64 s'.t.rs)).setCell ⟨w4.heap.size, 8, none⟩ (.int .i64 s'.t.reg)).setCell ⟨w4.heap.size, 9, none⟩ (.int .i64 s'.h.id)).setCell ⟨w4.heap.size, 10, none⟩ (.int .i64 s'.h.ver)).setCell ⟨w4.heap.size, 11, none⟩ (.int .i64 s'.h.rs)).setCell ⟨w4.heap.size, 12, none⟩ (.int .i64 s'.h.reg)).setCell ⟨w4.heap.size, 13, none⟩ (.slice A9 n9 c9)) ((((((((((((((w10.setCell ⟨w4.heap.size, 0, none⟩ (.int .i64 s'.gen)).setCell ⟨w4.heap.size, 1, none⟩ (.int .i64 s'.phase)).setCell ⟨w4.heap.size, 2, none⟩ (.int .i64 s'.mig)).setCell ⟨w4.heap.size, 3, none⟩ (.int .i64 s'.tail)).setCell ⟨w4.heap.size, 4, none⟩ (.int .i64 s'.now)).setCell ⟨w4.heap.size, 5, none⟩ (.int .i64 s'.t.id)).setCell ⟨w4.heap.size, 6, none⟩ (.int .i64 s'.t.ver)).setCell ⟨w4.heap.size, 7, none⟩ (.int .i64 s'.t.rs)).setCell ⟨w4.heap.size, 8, none⟩ (.int .i64 s'.t.reg)).setCell ⟨w4.heap.size, 9, none⟩ (.int .i64 s'.h.id)).setCell ⟨w4.heap.size, 10, none⟩ (.int .i64 s'.h.ver)).setCell ⟨w4.heap.size, 11, none⟩ (.int .i64 s'.h.rs)).setCell ⟨w4.heap.size, 12, none⟩ (.int .i64 s'.h.reg)).setCell ⟨w4.heap.size, 13, none⟩ (.slice A9 n9 c9)).heap.size s' A9 n9 c9) := (hat9.grown HG10.out (fun k hk ad e => by have := hfr9 ad e; have := box_lt HW8.out; omega)).own
      have HC10 : Hid (SbAt ((((((((((((((w10.setCell ⟨w4.heap.size, 0, none⟩ (.int .i64 s'.gen)).setCell ⟨w4.heap.size, 1, none⟩ (.int .i64 s'.phase)).setCell ⟨w4.heap.size, 2, none⟩ (.int .i64 s'.mig)).setCell ⟨w4.heap.size, 3, none⟩ (.int .i64 s'.tail)).setCell ⟨w4.heap.size, 4, none⟩ (.int .i64 s'.now)).setCell ⟨w4.heap.size, 5, none⟩ (.int .i64 s'.t.id)).setCell ⟨w4.heap.size, 6, none⟩ (.int .i64 s'.t.ver)).setCell ⟨w4.heap.size, 7, none⟩ (.int .i64 s'.t.rs)).setCell ⟨w4.heap.size, 8, none⟩ (.int .i64 s'.t.reg)).setCell ⟨w4.heap.size, 9, none⟩ (.int .i64 s'.h.id)).setCell ⟨w4.heap.size, 10, none⟩ (.int .i64 s'.h.ver)).setCell ⟨w4.heap.size, 11, none⟩ (.int .i64 s'.h.rs)).setCell ⟨w4.heap.size, 12, none⟩ (.int .i64 s'.h.reg)).setCell ⟨w4.heap.size, 13, none⟩ (.slice A9 n9 c9)) ((((((((((((((w10.setCell ⟨w4.heap.size, 0, none⟩ (.int .i64 s'.gen)).setCell ⟨w4.heap.size, 1, none⟩ (.int .i64 s'.phase)).setCell ⟨w4.heap.size, 2, none⟩ (.int .i64 s'.mig)).setCell ⟨w4.heap.size, 3, none⟩ (.int .i64 s'.tail)).setCell ⟨w4.heap.size, 4, none⟩ (.int .i64 s'.now)).setCell ⟨w4.heap.size, 5, none⟩ (.int .i64 s'.t.id)).setCell ⟨w4.heap.size, 6, none⟩ (.int .i64 s'.t.ver)).setCell ⟨w4.heap.size, 7, none⟩ (.int .i64 s'.t.rs)).setCell ⟨w4.heap.size, 8, none⟩ (.int .i64 s'.t.reg)).setCell ⟨w4.heap.size, 9, none⟩ (.int .i64 s'.h.id)).setCell ⟨w4.heap.size, 10, none⟩ (.int .i64 s'.h.ver)).setCell ⟨w4.heap.size, 11, none⟩ (.int .i64 s'.h.rs)).setCell ⟨w4.heap.size, 12, none⟩ (.int .i64 s'.h.reg)).setCell ⟨w4.heap.size, 13, none⟩ (.slice A9 n9 c9)).heap.size s' A8 n8 c8) := ((HA8.out.on hb9).grown HG10.out (fun k hk ad e => by have := HF8.out ad e; omega)).own
      have HV10 : Hid (((((((((((((((w10.setCell ⟨w4.heap.size, 0, none⟩ (.int .i64 s'.gen)).setCell ⟨w4.heap.size, 1, none⟩ (.int .i64 s'.phase)).setCell ⟨w4.heap.size, 2, none⟩ (.int .i64 s'.mig)).setCell ⟨w4.heap.size, 3, none⟩ (.int .i64 s'.tail)).setCell ⟨w4.heap.size, 4, none⟩ (.int .i64 s'.now)).setCell ⟨w4.heap.size, 5, none⟩ (.int .i64 s'.t.id)).setCell ⟨w4.heap.size, 6, none⟩ (.int .i64 s'.t.ver)).setCell ⟨w4.heap.size, 7, none⟩ (.int .i64 s'.t.rs)).setCell ⟨w4.heap.size, 8, none⟩ (.int .i64 s'.t.reg)).setCell ⟨w4.heap.size, 9, none⟩ (.int .i64 s'.h.id)).setCell ⟨w4.heap.size, 10, none⟩ (.int .i64 s'.h.ver)).setCell ⟨w4.heap.size, 11, none⟩ (.int .i64 s'.h.rs)).setCell ⟨w4.heap.size, 12, none⟩ (.int .i64 s'.h.reg)).setCell ⟨w4.heap.size, 13, none⟩ (.slice A9 n9 c9)).heap[w2.heap.size]? = some (.cells #[.int .i64 s'.gen, .int .i64 s'.phase, .int .i64 s'.mig, .int .i64 s'.tail, .int .i64 s'.now, .int .i64 s'.t.id, .int .i64 s'.t.ver, .int .i64 s'.t.rs, .int .i64 s'.t.reg, .int .i64 s'.h.id, .int .i64 s'.h.ver, .int .i64 s'.h.rs, .int .i64 s'.h.reg, .slice A8 n8 c8] 27 (0, 0))) := (HG10.out.block _ (box_lt HX10.out) (fun e => by injection e with e; have := HL4.out; omega)).trans HX10.out
      obtain ⟨y0, y1, y2, y3, y4, y5, y6, y7, y8, y9, y10, y11, y12, y13⟩ := cells14 HY10.out
      obtain ⟨fz0, fz1, fz2, fz3, fz4, fz5, fz6, fz7, fz8, fz9, fz10, fz11, fz12, fz13⟩ := frozen14 HY10.out
      clear hat9 hfr9 hb9 HX10 HY10
      go_upto_region 11 with fail
      generalize ((((((((((((((w10.setCell ⟨w4.heap.size, 0, none⟩ (.int .i64 s'.gen)).setCell ⟨w4.heap.size, 1, none⟩ (.int .i64 s'.phase)).setCell ⟨w4.heap.size, 2, none⟩ (.int .i64 s'.mig)).setCell ⟨w4.heap.size, 3, none⟩ (.int .i64 s'.tail)).setCell ⟨w4.heap.size, 4, none⟩ (.int .i64 s'.now)).setCell ⟨w4.heap.size, 5, none⟩ (.int .i64 s'.t.id)).setCell ⟨w4.heap.size, 6, none⟩ (.int .i64 s'.t.ver)).setCell ⟨w4.heap.size, 7, none⟩ (.int .i64 s'.t.rs)).setCell ⟨w4.heap.size, 8, none⟩ (.int .i64 s'.t.reg)).setCell ⟨w4.heap.size, 9, none⟩ (.int .i64 s'.h.id)).setCell ⟨w4.heap.size, 10, none⟩ (.int .i64 s'.h.ver)).setCell ⟨w4.heap.size, 11, none⟩ (.int .i64 s'.h.rs)).setCell ⟨w4.heap.size, 12, none⟩ (.int .i64 s'.h.reg)).setCell ⟨w4.heap.size, 13, none⟩ (.slice A9 n9 c9)) = w11 at *
      clear y0 y1 y2 y3 y4 y5 y6 y7 y8 y9 y10 y11 y12 y13 fz0 fz1 fz2 fz3 fz4 fz5 fz6 fz7 fz8 fz9 fz10 fz11 fz12 fz13 HG10
      have AW2 := Lib.hid (AW.out _ HB10.out)
      clear AW
      go_wp2_with (first
        | (go_at_call 10; revert HC12; intro HC12; refine (HEQ.out s' HSF'.out A8 A9 n8 c8 n9 c9 w12 HC12.out.1 HC12.out.2).mono ?_; rintro r w13 ⟨rfl, hb13⟩; have HB13 : Hid (Below w.heap.size w w13) := HB12.out.trans (hb13.mono HB12.out.size); clear hb13)
        | (go_at_call 11; refine AW2.out.mono ?_; rintro r w12 ⟨rfl, hb12⟩; have HB12 : Hid (Below w.heap.size w w12) := HB10.out.trans (hb12.mono HB10.out.size); have HC12 := Lib.hid (And.intro (HC10.out.on hb12) (HA10.out.on hb12)); have HX12 : Hid (w12.heap[w2.heap.size]? = some _) := box_on HV10.out hb12; have HY12 : Hid (w12.heap[w4.heap.size]? = some _) := box_on HZ10.out hb12; clear hb12; obtain ⟨x0, x1, x2, x3, x4, x5, x6, x7, x8, x9, x10, x11, x12, x13⟩ := cells14 HX12.out; obtain ⟨y0, y1, y2, y3, y4, y5, y6, y7, y8, y9, y10, y11, y12, y13⟩ := cells14 HY12.out))
      go_ret
      exact ⟨ret_bool (by simp), HB13.out⟩
    · by_cases h0 : x < 0
      · have d0 : decide (x < 0) = true := decide_eq_true h0
        clear hx h0 HEN
        go_wp2_with (go_at_call 10; refine HQ.out.mono ?_; rintro r w6 ⟨rfl, hb6⟩; have HB6 : Hid (Below w.heap.size w w6) := HB4.out.trans (hb6.mono HB4.out.size); have HX6 : Hid (w6.heap[w2.heap.size]? = some _) := box_on HM4.out hb6; have HY6 : Hid (w6.heap[w4.heap.size]? = some _) := box_on HN4.out hb6; clear hb6 x0 x1 x2 x3 x4 x5 x6 x7 x8 x9 x10 x11 x12 x13 y0 y1 y2 y3 y4 y5 y6 y7 y8 y9 y10 y11 y12 y13)
        go_wp2_with (go_at_call 11; refine (AW.out _ HB6.out).mono ?_; rintro r w7 ⟨rfl, hb7⟩; have HB7 : Hid (Below w.heap.size w w7) := HB6.out.trans (hb7.mono HB6.out.size); clear hb7)
        go_ret
        exact ⟨rfl, HB7.out⟩
      · have d0 : decide (x < 0) = false := decide_eq_false h0
        have d1 : decide (1048576 ≤ x) = true := decide_eq_true (by omega)
        clear hx h0 HEN
        go_wp2_with (go_at_call 10; refine HQ.out.mono ?_; rintro r w6 ⟨rfl, hb6⟩; have HB6 : Hid (Below w.heap.size w w6) := HB4.out.trans (hb6.mono HB4.out.size); have HX6 : Hid (w6.heap[w2.heap.size]? = some _) := box_on HM4.out hb6; have HY6 : Hid (w6.heap[w4.heap.size]? = some _) := box_on HN4.out hb6; clear hb6 x0 x1 x2 x3 x4 x5 x6 x7 x8 x9 x10 x11 x12 x13 y0 y1 y2 y3 y4 y5 y6 y7 y8 y9 y10 y11 y12 y13)
        go_wp2_with (go_at_call 11; refine (AW.out _ HB6.out).mono ?_; rintro r w7 ⟨rfl, hb7⟩; have HB7 : Hid (Below w.heap.size w w7) := HB6.out.trans (hb7.mono HB6.out.size); clear hb7)
        go_ret
        exact ⟨rfl, HB7.out⟩
end Go.Proofs.YtcjnhemlkahgoaaDoor
