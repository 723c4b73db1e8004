/-
  The walk of the law PlanDecode.
-/
import Derived.Test.YtjlakkfbeijnbaaDoorPlRefDec
import Derived.Test.YtjlakkfbeijnbaaDoorPlEq
set_option maxRecDepth 100000
namespace Go.Proofs.YtjlakkfbeijnbaaDoor
open Go.RowKit
/-- One record and one word: what every decoder says of these bytes. -/
theorem pl_one (x : Int) (l : List Nat) : ∃ (q : Pl.P) (t : Bool), ∀ w r w', DecPl w x l r w' → r = .returned (.tuple #[.agg #[.int .i64 q.kind, .int .i64 q.mig, .int .i64 q.idx, .int .i64 q.tail, .int .i64 q.t.id, .int .i64 q.t.ver, .int .i64 q.t.rs, .int .i64 q.t.reg], .bool t]) ∧ Below w.heap.size w w' := by
  by_cases h : ∃ p, Pl.good x l p
  · obtain ⟨p, hp⟩ := h
    refine ⟨p, true, fun w r w' k => ?_⟩
    rcases k with ⟨p', hp', k⟩ | ⟨k, -⟩
    · rw [← Pl.good_rd Pl.rl_reads hp, Pl.good_rd Pl.rl_reads hp']
      exact k
    · exact absurd ⟨p, hp⟩ k
  · refine ⟨⟨0, 0, 0, 0, Sb.L0⟩, false, fun w r w' k => ?_⟩
    rcases k with ⟨p', hp', -⟩ | ⟨-, k⟩
    · exact absurd ⟨p', hp'⟩ h
    · exact k
/-- Bytes do not lie in a record's box. -/
theorem bs_box8 {w : World} {B g : Nat} {A : Option Addr} {l : List Nat} {i0 i1 i2 i3 i4 i5 i6 i7 : Int} {T : TypeId} (hb : Bs w B A l) (h : w.heap[g]? = some (.cells #[.int .i64 i0, .int .i64 i1, .int .i64 i2, .int .i64 i3, .int .i64 i4, .int .i64 i5, .int .i64 i6, .int .i64 i7] T (0, 0))) (hl : 0 < l.length) : ∀ ad, A = some ad → ad.block ≠ g := fun ad e => by
  subst e
  obtain ⟨h1, ad', e, h3, h4⟩ := hb 0 hl
  injection e with e
  subst e
  rintro rfl
  unfold World.cell? at h4
  rw [add_block, h] at h4
  dsimp only at h4
  split at h4
  · cases h4
  · generalize (ad.add 0).off = o at h4
    match o, h4 with
    | 0, h4 => simp at h4
    | 1, h4 => simp at h4
    | 2, h4 => simp at h4
    | 3, h4 => simp at h4
    | 4, h4 => simp at h4
    | 5, h4 => simp at h4
    | 6, h4 => simp at h4
    | 7, h4 => simp at h4
    | k + 8, h4 => simp at h4
theorem bs_past {w w' : World} {B r : Nat} {A : Option Addr} {l : List Nat} (h : Bs w B A l) (hg : w.grownBy w' (some r)) (hr : ∀ ad, A = some ad → ad.block ≠ r) : Bs w' B A l := fun k hk => by
  obtain ⟨h1, ad, e, hB, h0⟩ := h k hk
  exact ⟨h1, ad, e, hB, hg.cell h0 (fun e' => by rw [add_block] at e'; injection e' with e'; exact hr ad e e')⟩
theorem box_below {w : World} {g : Nat} {o : Obj} (h : w.heap[g]? = some o) : g < w.heap.size := (Array.getElem?_eq_some_iff.1 h).1
set_option maxHeartbeats 8000000 in
theorem plandecode_any (A0 : Option Addr) (n0 c0 : Nat) (l0 : List Nat) (A1 : Option Addr) (n1 c1 : Nat) (l1 : List Nat) (x : Int) (w : World) (hs0 : SlIs A0 n0 c0) (hb0 : Hid (l0.length = n0 ∧ Bs w w.heap.size A0 l0)) (hs1 : SlIs A1 n1 c1) (hb1 : Hid (l1.length = n1 ∧ Bs w w.heap.size A1 l1)) (ht : Hid (TabW w)) (hz : 0 < w.heap.size) :
    Calls Tryd.prog 4 #[.slice A0 n0 c0, .slice A1 n1 c1, .int .i64 x] w fun r w' => r = .returned (.bool true) ∧ Below w.heap.size w w' := by
  obtain ⟨m0, hm0⟩ := min_is n0 70
  obtain ⟨m1, hm1⟩ := min_is n1 59
  have hm70 : m0 ≤ 70 := by unfold MinIs at hm0; omega
  have hm59 : m1 ≤ 59 := by unfold MinIs at hm1; omega
  have HTB : Hid (∀ W, Below w.heap.size w W → TabW W ∧ 0 < W.heap.size) := fun W hW => ⟨ht.out.below hW hz, Nat.lt_of_lt_of_le hz hW.size⟩
  have AW : Hid (∀ W, Below w.heap.size w W → Calls Tryd.prog 8 #[] W fun r w' => r = .returned (.bool true) ∧ Below W.heap.size W w') := fun W _ => plawake_any W
  obtain ⟨a1, a2⟩ := min_bs hb0.out.1 hb0.out.2 hm0
  obtain ⟨b1, b2⟩ := min_bs hb1.out.1 hb1.out.2 hm1
  obtain ⟨s, t, hgot⟩ := pl_one x (l0.take m0)
  have HP : Hid (∀ W, Below w.heap.size w W → Calls Tryd.prog 9 #[.slice A0 m0 c0, .int .i64 x] W fun r w' => r = .returned (.tuple #[.agg #[.int .i64 s.kind, .int .i64 s.mig, .int .i64 s.idx, .int .i64 s.tail, .int .i64 s.t.id, .int .i64 s.t.ver, .int .i64 s.t.rs, .int .i64 s.t.reg], .bool t]) ∧ Below W.heap.size W w') := fun W hW =>
    (pldecode_any x A0 w.heap.size m0 c0 _ W hW.size (min_sl hs0 hm0) a1 (a2.below hW (Nat.le_refl _)) (HTB.out W hW).1 (HTB.out W hW).2).mono fun r w' h => hgot W r w' h
  have HR : Hid (∀ W, Below w.heap.size w W → Calls Tryd.prog 12 #[.slice A0 m0 c0, .int .i64 x] W fun r w' => r = .returned (.tuple #[.agg #[.int .i64 s.kind, .int .i64 s.mig, .int .i64 s.idx, .int .i64 s.tail, .int .i64 s.t.id, .int .i64 s.t.ver, .int .i64 s.t.rs, .int .i64 s.t.reg], .bool t]) ∧ Below W.heap.size W w') := fun W hW =>
    (refpldec_any x A0 w.heap.size m0 c0 _ W hW.size (min_sl hs0 hm0) a1 (a2.below hW (Nat.le_refl _)) (by omega)).mono fun r w' h => hgot W r w' h
  have HEN : Hid (0 ≤ x ∧ x < 1048576 → ∀ W, Below w.heap.size w W → Calls Tryd.prog 13 #[.int .i64 4, .int .i64 0, .int .i64 x, .slice A1 m1 c1] W fun r w' => ∃ A3 c3, r = .returned (.slice A3 64 c3) ∧ SlIs A3 64 c3 ∧ Bs w' w'.heap.size A3 (Fr.enc 4 0 x (l1.take m1)) ∧ Below W.heap.size W w') := fun hx W hW => by
    obtain ⟨k, rfl⟩ := Int.eq_ofNat_of_zero_le hx.1
    exact reffrenc_any 4 0 k A1 w.heap.size m1 c1 _ W (by decide) (by decide) (by omega) hW.size (min_sl hs1 hm1) b1 hm59 (b2.below hW (Nat.le_refl _))
  obtain ⟨s', t', hgot'⟩ := pl_one x (Fr.enc 4 0 x (l1.take m1))
  have HLE : Hid ((Fr.enc 4 0 x (l1.take m1)).length = 64) := Fr.enc_length _ _ _ _ (by rw [b1]; exact hm59)
  have HP2 : Hid (∀ W A3 B3 c3, Below w.heap.size w W → B3 ≤ W.heap.size → SlIs A3 64 c3 → Bs W B3 A3 (Fr.enc 4 0 x (l1.take m1)) → Calls Tryd.prog 9 #[.slice A3 64 c3, .int .i64 x] W fun r w' => r = .returned (.tuple #[.agg #[.int .i64 s'.kind, .int .i64 s'.mig, .int .i64 s'.idx, .int .i64 s'.tail, .int .i64 s'.t.id, .int .i64 s'.t.ver, .int .i64 s'.t.rs, .int .i64 s'.t.reg], .bool t']) ∧ Below W.heap.size W w') := fun W A3 B3 c3 hW h0 h1 h2 =>
    (pldecode_any x A3 B3 64 c3 _ W h0 h1 HLE.out h2 (HTB.out W hW).1 (HTB.out W hW).2).mono fun r w' h => hgot' W r w' h
  have HR2 : Hid (∀ W A3 B3 c3, Below w.heap.size w W → B3 ≤ W.heap.size → SlIs A3 64 c3 → Bs W B3 A3 (Fr.enc 4 0 x (l1.take m1)) → Calls Tryd.prog 12 #[.slice A3 64 c3, .int .i64 x] W fun r w' => r = .returned (.tuple #[.agg #[.int .i64 s'.kind, .int .i64 s'.mig, .int .i64 s'.idx, .int .i64 s'.tail, .int .i64 s'.t.id, .int .i64 s'.t.ver, .int .i64 s'.t.rs, .int .i64 s'.t.reg], .bool t']) ∧ Below W.heap.size W w') := fun W A3 B3 c3 hW h0 h1 h2 =>
    (refpldec_any x A3 B3 64 c3 _ W h0 h1 HLE.out h2 (by decide)).mono fun r w' h => hgot' W r w' h
  have hnc0 := hs0.2.1
  have hnc1 := hs1.2.1
  have hc63 := hs0.2.2
  have hd63 := hs1.2.2
  have HNA := Lib.hid hs0.1
  have HNB := Lib.hid hs1.1
  have htt : (t != t) = false := by cases t <;> rfl
  have htt' : (t' == t') = true := by cases t' <;> rfl
  clear hgot hgot' a1 a2 b1 b2 hs0 hs1 hb0 hb1 ht
  generalize Fr.enc 4 0 x (l1.take m1) = en at *
  have hq := fun W : World => plan_eq W s.kind s.mig s.idx s.tail s.t.id s.t.ver s.t.rs s.t.reg s.kind s.mig s.idx s.tail s.t.id s.t.ver s.t.rs s.t.reg
  have hq' := fun W : World => plan_eq W s'.kind s'.mig s'.idx s'.tail s'.t.id s'.t.ver s'.t.rs s'.t.reg s'.kind s'.mig s'.idx s'.tail s'.t.id s'.t.ver s'.t.rs s'.t.reg
  simp only [Pl.same_self] at hq hq'
  go_enter Tryd.func4, Tryd.ntmps4
  go_upto_region 1 with fail
  go_cut [0, 1] (fun u v wx => u = .slice A0 m0 c0 ∧ v = .slice A1 m1 c1 ∧ wx = w.drew)
  case first =>
    unfold MinIs at hm0 hm1
    rcases hm0 with ⟨i0, rfl⟩ | ⟨i0, rfl⟩
    all_goals
      rcases hm1 with ⟨i1, rfl⟩ | ⟨i1, rfl⟩
      all_goals
        go_region
        all_goals
          (try go_wp2_with fail)
          go_meet
          exact ⟨rfl, rfl, rfl⟩
  case rest =>
    obtain ⟨rfl, rfl, rfl⟩ := hcut
    have HB1 : Hid (Below w.heap.size w w.drew) := (Below.refl _ w).drew
    clear hm0 hm1 hnc0 hnc1 hc63 hd63 hm70 hm59
    generalize w.drew = w1 at *
    go_wp2_with fail
    refine (HP.out _ HB1.out).mono ?_
    rintro r w2 ⟨rfl, hb2⟩
    have HB2 : Hid (Below w.heap.size w w2) := HB1.out.trans (hb2.mono HB1.out.size)
    clear hb2
    go_upto_region 3 with fail
    have Hp3 : Hid ((w2.alloc (.cells #[.int .i64 s.kind, .int .i64 s.mig, .int .i64 s.idx, .int .i64 s.tail, .int .i64 s.t.id, .int .i64 s.t.ver, .int .i64 s.t.rs, .int .i64 s.t.reg] 25)).heap[w2.heap.size]? = some (.cells #[.int .i64 s.kind, .int .i64 s.mig, .int .i64 s.idx, .int .i64 s.tail, .int .i64 s.t.id, .int .i64 s.t.ver, .int .i64 s.t.rs, .int .i64 s.t.reg] 25 (0, 0))) := heap_alloc_new _ _
    have HB3 : Hid (Below w.heap.size w (w2.alloc (.cells #[.int .i64 s.kind, .int .i64 s.mig, .int .i64 s.idx, .int .i64 s.tail, .int .i64 s.t.id, .int .i64 s.t.ver, .int .i64 s.t.rs, .int .i64 s.t.reg] 25))) := HB2.out.alloc HB2.out.size _
    have HGp : Hid (w.heap.size ≤ w2.heap.size) := HB2.out.size
    generalize w2.alloc (.cells #[.int .i64 s.kind, .int .i64 s.mig, .int .i64 s.idx, .int .i64 s.tail, .int .i64 s.t.id, .int .i64 s.t.ver, .int .i64 s.t.rs, .int .i64 s.t.reg] 25) = w3 at *
    generalize w2.heap.size = gp at *
    go_wp2_with fail
    refine (HR.out _ HB3.out).mono ?_
    rintro r w4 ⟨rfl, hb4⟩
    have HB4 : Hid (Below w.heap.size w w4) := HB3.out.trans (hb4.mono HB3.out.size)
    have Hp4 := Lib.hid (box_next Hp3.out hb4 (by rfl))
    clear hb4
    go_upto_region 4 with fail
    have Hq5 : Hid ((w4.alloc (.cells #[.int .i64 s.kind, .int .i64 s.mig, .int .i64 s.idx, .int .i64 s.tail, .int .i64 s.t.id, .int .i64 s.t.ver, .int .i64 s.t.rs, .int .i64 s.t.reg] 25)).heap[w4.heap.size]? = some (.cells #[.int .i64 s.kind, .int .i64 s.mig, .int .i64 s.idx, .int .i64 s.tail, .int .i64 s.t.id, .int .i64 s.t.ver, .int .i64 s.t.rs, .int .i64 s.t.reg] 25 (0, 0))) := heap_alloc_new _ _
    have Hp5 := Lib.hid (box_old (o' := .cells #[.int .i64 s.kind, .int .i64 s.mig, .int .i64 s.idx, .int .i64 s.tail, .int .i64 s.t.id, .int .i64 s.t.ver, .int .i64 s.t.rs, .int .i64 s.t.reg] 25) Hp4.out)
    have HB5 : Hid (Below w.heap.size w (w4.alloc (.cells #[.int .i64 s.kind, .int .i64 s.mig, .int .i64 s.idx, .int .i64 s.tail, .int .i64 s.t.id, .int .i64 s.t.ver, .int .i64 s.t.rs, .int .i64 s.t.reg] 25))) := HB4.out.alloc HB4.out.size _
    have HGq : Hid (w.heap.size ≤ w4.heap.size) := HB4.out.size
    have HNpq : Hid (gp < w4.heap.size) := box_below Hp4.out
    clear Hp4
    generalize w4.alloc (.cells #[.int .i64 s.kind, .int .i64 s.mig, .int .i64 s.idx, .int .i64 s.tail, .int .i64 s.t.id, .int .i64 s.t.ver, .int .i64 s.t.rs, .int .i64 s.t.reg] 25) = w5 at *
    generalize w4.heap.size = gq at *
    obtain ⟨x0, x1, x2, x3, x4, x5, x6, x7⟩ := eight_cells Hp5.out
    obtain ⟨y0, y1, y2, y3, y4, y5, y6, y7⟩ := eight_cells Hq5.out
    by_cases hx : 0 ≤ x ∧ x < 1048576
    · have HEN2 := Lib.hid (HEN.out hx)
      have d0 : decide (x < 0) = false := decide_eq_false (by omega)
      have d1 : decide (1048576 ≤ x) = false := decide_eq_false (by omega)
      clear hx HEN
      go_upto_region 8 with fail
      clear x0 x1 x2 x3 x4 x5 x6 x7 y0 y1 y2 y3 y4 y5 y6 y7
      go_wp2_with fail
      refine (HEN2.out _ HB5.out).mono ?_
      rintro r w6 ⟨A3, c3, rfl, hs3, hbs3, hb6⟩
      have HB6 : Hid (Below w.heap.size w w6) := HB5.out.trans (hb6.mono HB5.out.size)
      have Hp6 := Lib.hid (box_next Hp5.out hb6 (by rfl))
      have Hq6 := Lib.hid (box_next Hq5.out hb6 (by rfl))
      have HS6 := Lib.hid (And.intro hs3 hbs3)
      clear hb6 hs3 hbs3
      go_wp2_with fail
      refine (HP2.out _ A3 w6.heap.size c3 HB6.out (Nat.le_refl _) HS6.out.1 HS6.out.2).mono ?_
      rintro r w7 ⟨rfl, hb7⟩
      have HB7 : Hid (Below w.heap.size w w7) := HB6.out.trans (hb7.mono HB6.out.size)
      have Hp7 := Lib.hid (box_next Hp6.out hb7 (by rfl))
      have Hq7 := Lib.hid (box_next Hq6.out hb7 (by rfl))
      have HZ7 : Hid (w6.heap.size ≤ w7.heap.size) := hb7.size
      have HV7 : Hid (Bs w7 w6.heap.size A3 en) := HS6.out.2.below hb7 (Nat.le_refl _)
      have HL7 : Hid (gp < w6.heap.size) := box_below Hp6.out
      clear hb7
      obtain ⟨x0, x1, x2, x3, x4, x5, x6, x7⟩ := eight_cells Hp7.out
      obtain ⟨f0, f1, f2, f3, f4, f5, f6, f7⟩ := eight_frozen Hp7.out
      go_upto_region 10 with fail
      clear x0 x1 x2 x3 x4 x5 x6 x7 f0 f1 f2 f3 f4 f5 f6 f7
      have Hp8 : Hid (((((((((w7.setCell ⟨gp, 0, none⟩ (.int .i64 s'.kind)).setCell ⟨gp, 1, none⟩ (.int .i64 s'.mig)).setCell ⟨gp, 2, none⟩ (.int .i64 s'.idx)).setCell ⟨gp, 3, none⟩ (.int .i64 s'.tail)).setCell ⟨gp, 4, none⟩ (.int .i64 s'.t.id)).setCell ⟨gp, 5, none⟩ (.int .i64 s'.t.ver)).setCell ⟨gp, 6, none⟩ (.int .i64 s'.t.rs)).setCell ⟨gp, 7, none⟩ (.int .i64 s'.t.reg)).heap[gp]? = some (.cells #[.int .i64 s'.kind, .int .i64 s'.mig, .int .i64 s'.idx, .int .i64 s'.tail, .int .i64 s'.t.id, .int .i64 s'.t.ver, .int .i64 s'.t.rs, .int .i64 s'.t.reg] 25 (0, 0))) := stored8 Hp7.out
      have Hq8 : Hid (((((((((w7.setCell ⟨gp, 0, none⟩ (.int .i64 s'.kind)).setCell ⟨gp, 1, none⟩ (.int .i64 s'.mig)).setCell ⟨gp, 2, none⟩ (.int .i64 s'.idx)).setCell ⟨gp, 3, none⟩ (.int .i64 s'.tail)).setCell ⟨gp, 4, none⟩ (.int .i64 s'.t.id)).setCell ⟨gp, 5, none⟩ (.int .i64 s'.t.ver)).setCell ⟨gp, 6, none⟩ (.int .i64 s'.t.rs)).setCell ⟨gp, 7, none⟩ (.int .i64 s'.t.reg)).heap[gq]? = some (.cells #[.int .i64 s.kind, .int .i64 s.mig, .int .i64 s.idx, .int .i64 s.tail, .int .i64 s.t.id, .int .i64 s.t.ver, .int .i64 s.t.rs, .int .i64 s.t.reg] 25 (0, 0))) := ((stored8_grown _ _ _ _ _ _ _ _ _ _).block _ (box_below Hq7.out) (fun e => by injection e with e; have := HNpq.out; omega)).trans Hq7.out
      have HZ8 : Hid (w6.heap.size ≤ ((((((((w7.setCell ⟨gp, 0, none⟩ (.int .i64 s'.kind)).setCell ⟨gp, 1, none⟩ (.int .i64 s'.mig)).setCell ⟨gp, 2, none⟩ (.int .i64 s'.idx)).setCell ⟨gp, 3, none⟩ (.int .i64 s'.tail)).setCell ⟨gp, 4, none⟩ (.int .i64 s'.t.id)).setCell ⟨gp, 5, none⟩ (.int .i64 s'.t.ver)).setCell ⟨gp, 6, none⟩ (.int .i64 s'.t.rs)).setCell ⟨gp, 7, none⟩ (.int .i64 s'.t.reg)).heap.size) := Nat.le_trans HZ7.out (stored8_grown _ _ _ _ _ _ _ _ _ _).size
      have HB8 : Hid (Below w.heap.size w ((((((((w7.setCell ⟨gp, 0, none⟩ (.int .i64 s'.kind)).setCell ⟨gp, 1, none⟩ (.int .i64 s'.mig)).setCell ⟨gp, 2, none⟩ (.int .i64 s'.idx)).setCell ⟨gp, 3, none⟩ (.int .i64 s'.tail)).setCell ⟨gp, 4, none⟩ (.int .i64 s'.t.id)).setCell ⟨gp, 5, none⟩ (.int .i64 s'.t.ver)).setCell ⟨gp, 6, none⟩ (.int .i64 s'.t.rs)).setCell ⟨gp, 7, none⟩ (.int .i64 s'.t.reg))) := HB7.out.trans (below_of_grown (stored8_grown _ _ _ _ _ _ _ _ _ _) HGp.out HB7.out.size)
      have HV8 : Hid (Bs ((((((((w7.setCell ⟨gp, 0, none⟩ (.int .i64 s'.kind)).setCell ⟨gp, 1, none⟩ (.int .i64 s'.mig)).setCell ⟨gp, 2, none⟩ (.int .i64 s'.idx)).setCell ⟨gp, 3, none⟩ (.int .i64 s'.tail)).setCell ⟨gp, 4, none⟩ (.int .i64 s'.t.id)).setCell ⟨gp, 5, none⟩ (.int .i64 s'.t.ver)).setCell ⟨gp, 6, none⟩ (.int .i64 s'.t.rs)).setCell ⟨gp, 7, none⟩ (.int .i64 s'.t.reg)) w6.heap.size A3 en) := bs_past HV7.out (stored8_grown _ _ _ _ _ _ _ _ _ _) (bs_box8 HV7.out Hp7.out (by rw [HLE.out]; decide))
      clear Hp7 Hq7 HV7
      generalize ((((((((w7.setCell ⟨gp, 0, none⟩ (.int .i64 s'.kind)).setCell ⟨gp, 1, none⟩ (.int .i64 s'.mig)).setCell ⟨gp, 2, none⟩ (.int .i64 s'.idx)).setCell ⟨gp, 3, none⟩ (.int .i64 s'.tail)).setCell ⟨gp, 4, none⟩ (.int .i64 s'.t.id)).setCell ⟨gp, 5, none⟩ (.int .i64 s'.t.ver)).setCell ⟨gp, 6, none⟩ (.int .i64 s'.t.rs)).setCell ⟨gp, 7, none⟩ (.int .i64 s'.t.reg)) = w8 at *
      go_wp2_with fail
      refine (HR2.out _ A3 w6.heap.size c3 HB8.out HZ8.out HS6.out.1 HV8.out).mono ?_
      rintro r w9 ⟨rfl, hb9⟩
      have HB9 : Hid (Below w.heap.size w w9) := HB8.out.trans (hb9.mono HB8.out.size)
      have Hp9 := Lib.hid (box_next Hp8.out hb9 (by rfl))
      have Hq9 := Lib.hid (box_next Hq8.out hb9 (by rfl))
      have HZ9 : Hid (w6.heap.size ≤ w9.heap.size) := Nat.le_trans HZ8.out hb9.size
      clear hb9
      obtain ⟨x0, x1, x2, x3, x4, x5, x6, x7⟩ := eight_cells Hq9.out
      obtain ⟨f0, f1, f2, f3, f4, f5, f6, f7⟩ := eight_frozen Hq9.out
      go_upto_region 11 with fail
      clear x0 x1 x2 x3 x4 x5 x6 x7 f0 f1 f2 f3 f4 f5 f6 f7
      have Hq10 : Hid (((((((((w9.setCell ⟨gq, 0, none⟩ (.int .i64 s'.kind)).setCell ⟨gq, 1, none⟩ (.int .i64 s'.mig)).setCell ⟨gq, 2, none⟩ (.int .i64 s'.idx)).setCell ⟨gq, 3, none⟩ (.int .i64 s'.tail)).setCell ⟨gq, 4, none⟩ (.int .i64 s'.t.id)).setCell ⟨gq, 5, none⟩ (.int .i64 s'.t.ver)).setCell ⟨gq, 6, none⟩ (.int .i64 s'.t.rs)).setCell ⟨gq, 7, none⟩ (.int .i64 s'.t.reg)).heap[gq]? = some (.cells #[.int .i64 s'.kind, .int .i64 s'.mig, .int .i64 s'.idx, .int .i64 s'.tail, .int .i64 s'.t.id, .int .i64 s'.t.ver, .int .i64 s'.t.rs, .int .i64 s'.t.reg] 25 (0, 0))) := stored8 Hq9.out
      have Hp10 : Hid (((((((((w9.setCell ⟨gq, 0, none⟩ (.int .i64 s'.kind)).setCell ⟨gq, 1, none⟩ (.int .i64 s'.mig)).setCell ⟨gq, 2, none⟩ (.int .i64 s'.idx)).setCell ⟨gq, 3, none⟩ (.int .i64 s'.tail)).setCell ⟨gq, 4, none⟩ (.int .i64 s'.t.id)).setCell ⟨gq, 5, none⟩ (.int .i64 s'.t.ver)).setCell ⟨gq, 6, none⟩ (.int .i64 s'.t.rs)).setCell ⟨gq, 7, none⟩ (.int .i64 s'.t.reg)).heap[gp]? = some (.cells #[.int .i64 s'.kind, .int .i64 s'.mig, .int .i64 s'.idx, .int .i64 s'.tail, .int .i64 s'.t.id, .int .i64 s'.t.ver, .int .i64 s'.t.rs, .int .i64 s'.t.reg] 25 (0, 0))) := ((stored8_grown _ _ _ _ _ _ _ _ _ _).block _ (box_below Hp9.out) (fun e => by injection e with e; have := HNpq.out; omega)).trans Hp9.out
      have HZ10 : Hid (w6.heap.size ≤ ((((((((w9.setCell ⟨gq, 0, none⟩ (.int .i64 s'.kind)).setCell ⟨gq, 1, none⟩ (.int .i64 s'.mig)).setCell ⟨gq, 2, none⟩ (.int .i64 s'.idx)).setCell ⟨gq, 3, none⟩ (.int .i64 s'.tail)).setCell ⟨gq, 4, none⟩ (.int .i64 s'.t.id)).setCell ⟨gq, 5, none⟩ (.int .i64 s'.t.ver)).setCell ⟨gq, 6, none⟩ (.int .i64 s'.t.rs)).setCell ⟨gq, 7, none⟩ (.int .i64 s'.t.reg)).heap.size) := Nat.le_trans HZ9.out (stored8_grown _ _ _ _ _ _ _ _ _ _).size
      have HB10 : Hid (Below w.heap.size w ((((((((w9.setCell ⟨gq, 0, none⟩ (.int .i64 s'.kind)).setCell ⟨gq, 1, none⟩ (.int .i64 s'.mig)).setCell ⟨gq, 2, none⟩ (.int .i64 s'.idx)).setCell ⟨gq, 3, none⟩ (.int .i64 s'.tail)).setCell ⟨gq, 4, none⟩ (.int .i64 s'.t.id)).setCell ⟨gq, 5, none⟩ (.int .i64 s'.t.ver)).setCell ⟨gq, 6, none⟩ (.int .i64 s'.t.rs)).setCell ⟨gq, 7, none⟩ (.int .i64 s'.t.reg))) := HB9.out.trans (below_of_grown (stored8_grown _ _ _ _ _ _ _ _ _ _) HGq.out HB9.out.size)
      clear Hp9 Hq9
      generalize ((((((((w9.setCell ⟨gq, 0, none⟩ (.int .i64 s'.kind)).setCell ⟨gq, 1, none⟩ (.int .i64 s'.mig)).setCell ⟨gq, 2, none⟩ (.int .i64 s'.idx)).setCell ⟨gq, 3, none⟩ (.int .i64 s'.tail)).setCell ⟨gq, 4, none⟩ (.int .i64 s'.t.id)).setCell ⟨gq, 5, none⟩ (.int .i64 s'.t.ver)).setCell ⟨gq, 6, none⟩ (.int .i64 s'.t.rs)).setCell ⟨gq, 7, none⟩ (.int .i64 s'.t.reg)) = w10 at *
      go_wp2_with fail
      refine (AW.out _ HB10.out).mono ?_
      rintro r w11 ⟨rfl, hb11⟩
      have HB11 : Hid (Below w.heap.size w w11) := HB10.out.trans (hb11.mono HB10.out.size)
      have Hp11 := Lib.hid (box_next Hp10.out hb11 (by rfl))
      have Hq11 := Lib.hid (box_next Hq10.out hb11 (by rfl))
      clear hb11
      obtain ⟨x0, x1, x2, x3, x4, x5, x6, x7⟩ := eight_cells Hp11.out
      obtain ⟨y0, y1, y2, y3, y4, y5, y6, y7⟩ := eight_cells Hq11.out
      go_wp2_with fail
      go_ret
      exact ⟨rfl, HB11.out⟩
    · have dd : decide (x < 0) = true ∨ (decide (x < 0) = false ∧ decide (1048576 ≤ x) = true) := by
        by_cases h : x < 0
        · exact .inl (decide_eq_true h)
        · exact .inr ⟨decide_eq_false h, decide_eq_true (by omega)⟩
      clear hx HEN
      rcases dd with d0 | ⟨d0, d1⟩
      all_goals
        go_wp2_with fail
        refine (AW.out _ HB5.out).mono ?_
        rintro r w6 ⟨rfl, hb6⟩
        have HB6 : Hid (Below w.heap.size w w6) := HB5.out.trans (hb6.mono HB5.out.size)
        clear hb6
        go_wp2_with fail
        go_ret
        exact ⟨rfl, HB6.out⟩
end Go.Proofs.YtjlakkfbeijnbaaDoor
