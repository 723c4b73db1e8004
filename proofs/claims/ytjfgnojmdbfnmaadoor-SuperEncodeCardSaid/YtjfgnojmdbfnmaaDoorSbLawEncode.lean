/-
  The walk of the law SuperEncode.
-/
import Derived.Test.YtjfgnojmdbfnmaaDoorSbLawWords
import Derived.Test.YtjfgnojmdbfnmaaDoorSbRefValid
import Derived.Test.YtjfgnojmdbfnmaaDoorSbRefEnc
namespace Go.Proofs.YtjfgnojmdbfnmaaDoor
open Go.RowKit
theorem TwoIn.drawn {w W : World} {o0 o1 : Obj} {g0 g1 : Nat} (h : TwoIn w o0 o1 g0 g1 W) (k : Nat) : TwoIn w o0 o1 g0 g1 (W.drewN k) := ⟨⟨h.1.1, below_drawn h.1.2 k⟩, ⟨h.2.1, below_drawn h.2.2 k⟩⟩
set_option maxHeartbeats 8000000 in
theorem superencode_any (a0 a1 a2 a3 a4 t0 t1 t2 t3 h0 h1 h2 h3 x : Int) (A : Option Addr) (n c : Nat) (l : List Sb.L) (w : World) (hs : SlIs A n c) (hl : Hid (l.length = n ∧ Ls w w.heap.size A l)) (ht : Hid (TabW w)) (hz : 0 < w.heap.size) :
    Calls Tryd.prog 9 #[.agg #[.int .i64 a0, .int .i64 a1, .int .i64 a2, .int .i64 a3, .int .i64 a4, .int .i64 t0, .int .i64 t1, .int .i64 t2, .int .i64 t3, .int .i64 h0, .int .i64 h1, .int .i64 h2, .int .i64 h3, .slice A n c], .int .i64 x] w fun r w' => r = .returned (.bool true) ∧ Below w.heap.size w w' := by
  obtain ⟨m, hm⟩ := min_is n 4
  have hm4 : m ≤ 4 := by unfold MinIs at hm; omega
  have C1 := Lib.hid (fun W => sbshort_any a0 a1 a2 a3 a4 t0 t1 t2 t3 h0 h1 h2 h3 A n c m hs hm W)
  obtain ⟨k1, k2⟩ := ls_take hl.out.1 hm hl.out.2
  have HL : Hid (∀ W, Below w.heap.size w W → Ls W w.heap.size A (l.take m)) := fun W hW => k2.below hW (Nat.le_refl _)
  have HK : Hid ((l.take m).length = m) := k1
  have HSL := Lib.hid (min_sl hs hm)
  have HTB : Hid (∀ W, Below w.heap.size w W → TabW W ∧ 0 < W.heap.size) := fun W hW => ⟨ht.out.below hW hz, Nat.lt_of_lt_of_le hz hW.size⟩
  clear k1 k2 hl hm hs ht hz
  generalize l.take m = l at *
  have AW : Hid (∀ W, Below w.heap.size w W → Calls Tryd.prog 22 #[] W fun r w' => r = .returned (.bool true) ∧ Below W.heap.size W w') := fun W hW => sbawake_any W (HTB.out W hW).1 (HTB.out W hW).2
  have Q2 : Hid (∀ W, Below w.heap.size w W → Calls Tryd.prog 26 #[.agg #[.int .i64 a0, .int .i64 a1, .int .i64 a2, .int .i64 a3, .int .i64 a4, .int .i64 t0, .int .i64 t1, .int .i64 t2, .int .i64 t3, .int .i64 h0, .int .i64 h1, .int .i64 h2, .int .i64 h3, .slice A m c]] W fun r w' => r = .returned (.bool (decide (Sb.valid ⟨a0, a1, a2, a3, a4, ⟨t0, t1, t2, t3⟩, ⟨h0, h1, h2, h3⟩, l⟩))) ∧ Below W.heap.size W w') := fun W hW => refsbvalid_any a0 a1 a2 a3 a4 t0 t1 t2 t3 h0 h1 h2 h3 A w.heap.size m c l W hW.size HK.out (HL.out W hW)
  have EN : Hid (∀ W, Below w.heap.size w W → Calls Tryd.prog 29 #[.agg #[.int .i64 a0, .int .i64 a1, .int .i64 a2, .int .i64 a3, .int .i64 a4, .int .i64 t0, .int .i64 t1, .int .i64 t2, .int .i64 t3, .int .i64 h0, .int .i64 h1, .int .i64 h2, .int .i64 h3, .slice A m c], .int .i64 x] W (FrEnc W (Sb.enc x ⟨a0, a1, a2, a3, a4, ⟨t0, t1, t2, t3⟩, ⟨h0, h1, h2, h3⟩, l⟩) (Sb.err ⟨a0, a1, a2, a3, a4, ⟨t0, t1, t2, t3⟩, ⟨h0, h1, h2, h3⟩, l⟩ x))) := fun W hW => sbencode_any a0 a1 a2 a3 a4 t0 t1 t2 t3 h0 h1 h2 h3 x A w.heap.size m c l W hW.size HSL.out HK.out (HL.out W hW) (HTB.out W hW).1 (HTB.out W hW).2
  have RE : Hid (Sb.valid ⟨a0, a1, a2, a3, a4, ⟨t0, t1, t2, t3⟩, ⟨h0, h1, h2, h3⟩, l⟩ → 0 ≤ x ∧ x < 1048576 → ∀ W, Below w.heap.size w W → Calls Tryd.prog 31 #[.agg #[.int .i64 a0, .int .i64 a1, .int .i64 a2, .int .i64 a3, .int .i64 a4, .int .i64 t0, .int .i64 t1, .int .i64 t2, .int .i64 t3, .int .i64 h0, .int .i64 h1, .int .i64 h2, .int .i64 h3, .slice A m c], .int .i64 x] W fun r w' => ∃ A3 c3, r = .returned (.slice A3 64 c3) ∧ SlIs A3 64 c3 ∧ Bs w' w'.heap.size A3 (Sb.enc x ⟨a0, a1, a2, a3, a4, ⟨t0, t1, t2, t3⟩, ⟨h0, h1, h2, h3⟩, l⟩) ∧ Below W.heap.size W w') := fun hv hx W hW => refsbenc_any a0 a1 a2 a3 a4 t0 t1 t2 t3 h0 h1 h2 h3 x A w.heap.size m c l W hW.size HK.out (HL.out W hW) hv hx
  have DE : Hid (Sb.valid ⟨a0, a1, a2, a3, a4, ⟨t0, t1, t2, t3⟩, ⟨h0, h1, h2, h3⟩, l⟩ → 0 ≤ x ∧ x < 1048576 → ∀ W A2 c2, Below w.heap.size w W → SlIs A2 64 c2 → Bs W W.heap.size A2 (Sb.enc x ⟨a0, a1, a2, a3, a4, ⟨t0, t1, t2, t3⟩, ⟨h0, h1, h2, h3⟩, l⟩) → Calls Tryd.prog 30 #[.slice A2 64 c2, .int .i64 x] W (HasSb W ⟨a0, a1, a2, a3, a4, ⟨t0, t1, t2, t3⟩, ⟨h0, h1, h2, h3⟩, l⟩)) := fun hv hx W A2 c2 hW j1 j2 => by
    have hg : Sb.good x (Sb.enc x ⟨a0, a1, a2, a3, a4, ⟨t0, t1, t2, t3⟩, ⟨h0, h1, h2, h3⟩, l⟩) ⟨a0, a1, a2, a3, a4, ⟨t0, t1, t2, t3⟩, ⟨h0, h1, h2, h3⟩, l⟩ := ⟨⟨by decide, by decide, by decide, hx⟩, hv, rfl⟩
    refine (sbdecode_any x A2 W.heap.size 64 c2 _ W (Nat.le_refl _) j1 (Sb.enc_length x _) j2 (HTB.out W hW).1 (HTB.out W hW).2).mono fun r w' h => ?_
    rcases h with ⟨s, hs, hh⟩ | ⟨hn, _⟩
    · have e1 : s = ⟨a0, a1, a2, a3, a4, ⟨t0, t1, t2, t3⟩, ⟨h0, h1, h2, h3⟩, l⟩ := (Sb.good_rd Sb.rl_reads Sb.counts hs).symm.trans (Sb.good_rd Sb.rl_reads Sb.counts hg)
      rwa [e1] at hh
    · exact absurd ⟨_, hg⟩ hn
  have EQ : Hid (∀ W A5 n5 c5, Below w.heap.size w W → n5 = m → Ls W W.heap.size A5 l → Calls Tryd.prog 28 #[.agg #[.int .i64 a0, .int .i64 a1, .int .i64 a2, .int .i64 a3, .int .i64 a4, .int .i64 t0, .int .i64 t1, .int .i64 t2, .int .i64 t3, .int .i64 h0, .int .i64 h1, .int .i64 h2, .int .i64 h3, .slice A5 n5 c5], .agg #[.int .i64 a0, .int .i64 a1, .int .i64 a2, .int .i64 a3, .int .i64 a4, .int .i64 t0, .int .i64 t1, .int .i64 t2, .int .i64 t3, .int .i64 h0, .int .i64 h1, .int .i64 h2, .int .i64 h3, .slice A m c]] W fun r w' => r = .returned (.bool true) ∧ Below W.heap.size W w') := fun W A5 n5 c5 hW e h5 => by
    subst e
    have h := refsbeq_any a0 a1 a2 a3 a4 t0 t1 t2 t3 h0 h1 h2 h3 a0 a1 a2 a3 a4 t0 t1 t2 t3 h0 h1 h2 h3 A5 A W.heap.size n5 n5 c5 c l l W (Nat.le_refl _) HK.out HK.out (by omega) (by omega) h5 ((HL.out W hW).more hW.size)
    rwa [Sb.same_self] at h
  have HER : Hid (Sb.err ⟨a0, a1, a2, a3, a4, ⟨t0, t1, t2, t3⟩, ⟨h0, h1, h2, h3⟩, l⟩ x = if Sb.valid ⟨a0, a1, a2, a3, a4, ⟨t0, t1, t2, t3⟩, ⟨h0, h1, h2, h3⟩, l⟩ then (if 0 ≤ x ∧ x < 1048576 then 0 else 2) else 4) := rfl
  have HEL := Lib.hid (Sb.enc_length x ⟨a0, a1, a2, a3, a4, ⟨t0, t1, t2, t3⟩, ⟨h0, h1, h2, h3⟩, l⟩)
  have HLT := Lib.hid (Sb.enc_lt x ⟨a0, a1, a2, a3, a4, ⟨t0, t1, t2, t3⟩, ⟨h0, h1, h2, h3⟩, l⟩)
  unfold HasSb at DE
  unfold FrEnc at EN
  simp only at DE
  generalize Sb.enc x ⟨a0, a1, a2, a3, a4, ⟨t0, t1, t2, t3⟩, ⟨h0, h1, h2, h3⟩, l⟩ = en at *
  generalize Sb.err ⟨a0, a1, a2, a3, a4, ⟨t0, t1, t2, t3⟩, ⟨h0, h1, h2, h3⟩, l⟩ x = er at *
  have HS0 := Lib.hid (sd_new w #[.int .i64 a0, .int .i64 a1, .int .i64 a2, .int .i64 a3, .int .i64 a4, .int .i64 t0, .int .i64 t1, .int .i64 t2, .int .i64 t3, .int .i64 h0, .int .i64 h1, .int .i64 h2, .int .i64 h3, .slice A n c] 44)
  have VD : (Sb.valid ⟨a0, a1, a2, a3, a4, ⟨t0, t1, t2, t3⟩, ⟨h0, h1, h2, h3⟩, l⟩ ∧ Hid (∀ W, Below w.heap.size w W → Calls Tryd.prog 26 #[.agg #[.int .i64 a0, .int .i64 a1, .int .i64 a2, .int .i64 a3, .int .i64 a4, .int .i64 t0, .int .i64 t1, .int .i64 t2, .int .i64 t3, .int .i64 h0, .int .i64 h1, .int .i64 h2, .int .i64 h3, .slice A m c]] W fun r w' => r = .returned (.bool true) ∧ Below W.heap.size W w')) ∨ (¬ Sb.valid ⟨a0, a1, a2, a3, a4, ⟨t0, t1, t2, t3⟩, ⟨h0, h1, h2, h3⟩, l⟩ ∧ Hid (∀ W, Below w.heap.size w W → Calls Tryd.prog 26 #[.agg #[.int .i64 a0, .int .i64 a1, .int .i64 a2, .int .i64 a3, .int .i64 a4, .int .i64 t0, .int .i64 t1, .int .i64 t2, .int .i64 t3, .int .i64 h0, .int .i64 h1, .int .i64 h2, .int .i64 h3, .slice A m c]] W fun r w' => r = .returned (.bool false) ∧ Below W.heap.size W w')) := by
    by_cases hv : Sb.valid ⟨a0, a1, a2, a3, a4, ⟨t0, t1, t2, t3⟩, ⟨h0, h1, h2, h3⟩, l⟩
    · rw [decide_eq_true hv] at Q2; exact .inl ⟨hv, Q2⟩
    · rw [decide_eq_false hv] at Q2; exact .inr ⟨hv, Q2⟩
  have HKM := Lib.hid HK.out
  clear HL HK HSL HTB Q2
  rcases VD with ⟨hv, QV⟩ | ⟨hv, QV⟩
  · have hx3 : x < 0 ∨ (0 ≤ x ∧ 1048576 ≤ x) ∨ (0 ≤ x ∧ x < 1048576) := by omega
    rcases hx3 with hx | hx | hx
    · have e0 : er = 2 := by rw [HER.out, if_pos hv, if_neg (by omega)]
      subst e0
      have d0 : decide (x < 0) = true := decide_eq_true hx
      clear RE DE EQ HER hv hx
      go_enter Tryd.func9, Tryd.ntmps9
      go_upto_region 1 with fail
      generalize w.alloc (.cells _ 44) = w0 at *
      obtain ⟨x0, x1, x2, x3, x4, x5, x6, x7, x8, x9, x10, x11, x12, x13⟩ := cells14 HS0.out.1
      go_wp2_with fail
      refine (C1.out _).mono ?_
      rintro r w1 ⟨rfl, hb1⟩
      have HS1 := Lib.hid (HS0.out.next hb1 (by rfl) (by rfl) (by rfl) (by rfl))
      have HS2 : Hid (Sd w w.heap.size (.cells #[.int .i64 a0, .int .i64 a1, .int .i64 a2, .int .i64 a3, .int .i64 a4, .int .i64 t0, .int .i64 t1, .int .i64 t2, .int .i64 t3, .int .i64 h0, .int .i64 h1, .int .i64 h2, .int .i64 h3, .slice A m c] 44 (0, 0)) ((((((((((((((w1.setCell ⟨w.heap.size, 0, none⟩ (.int .i64 a0)).setCell ⟨w.heap.size, 1, none⟩ (.int .i64 a1)).setCell ⟨w.heap.size, 2, none⟩ (.int .i64 a2)).setCell ⟨w.heap.size, 3, none⟩ (.int .i64 a3)).setCell ⟨w.heap.size, 4, none⟩ (.int .i64 a4)).setCell ⟨w.heap.size, 5, none⟩ (.int .i64 t0)).setCell ⟨w.heap.size, 6, none⟩ (.int .i64 t1)).setCell ⟨w.heap.size, 7, none⟩ (.int .i64 t2)).setCell ⟨w.heap.size, 8, none⟩ (.int .i64 t3)).setCell ⟨w.heap.size, 9, none⟩ (.int .i64 h0)).setCell ⟨w.heap.size, 10, none⟩ (.int .i64 h1)).setCell ⟨w.heap.size, 11, none⟩ (.int .i64 h2)).setCell ⟨w.heap.size, 12, none⟩ (.int .i64 h3)).setCell ⟨w.heap.size, 13, none⟩ (.slice A m c))) := ⟨stored14 HS1.out.1, HS1.out.2.trans (below_of_grown (stored14_grown w1 w.heap.size (.int .i64 a0) (.int .i64 a1) (.int .i64 a2) (.int .i64 a3) (.int .i64 a4) (.int .i64 t0) (.int .i64 t1) (.int .i64 t2) (.int .i64 t3) (.int .i64 h0) (.int .i64 h1) (.int .i64 h2) (.int .i64 h3) (.slice A m c)) (Nat.le_refl _) HS1.out.2.size)⟩
      clear hb1 x0 x1 x2 x3 x4 x5 x6 x7 x8 x9 x10 x11 x12 x13
      obtain ⟨x0, x1, x2, x3, x4, x5, x6, x7, x8, x9, x10, x11, x12, x13⟩ := cells14 HS1.out.1
      obtain ⟨fz0, fz1, fz2, fz3, fz4, fz5, fz6, fz7, fz8, fz9, fz10, fz11, fz12, fz13⟩ := frozen14 HS1.out.1
      go_upto_region 2 with fail
      generalize ((((((((((((((w1.setCell ⟨w.heap.size, 0, none⟩ (.int .i64 a0)).setCell ⟨w.heap.size, 1, none⟩ (.int .i64 a1)).setCell ⟨w.heap.size, 2, none⟩ (.int .i64 a2)).setCell ⟨w.heap.size, 3, none⟩ (.int .i64 a3)).setCell ⟨w.heap.size, 4, none⟩ (.int .i64 a4)).setCell ⟨w.heap.size, 5, none⟩ (.int .i64 t0)).setCell ⟨w.heap.size, 6, none⟩ (.int .i64 t1)).setCell ⟨w.heap.size, 7, none⟩ (.int .i64 t2)).setCell ⟨w.heap.size, 8, none⟩ (.int .i64 t3)).setCell ⟨w.heap.size, 9, none⟩ (.int .i64 h0)).setCell ⟨w.heap.size, 10, none⟩ (.int .i64 h1)).setCell ⟨w.heap.size, 11, none⟩ (.int .i64 h2)).setCell ⟨w.heap.size, 12, none⟩ (.int .i64 h3)).setCell ⟨w.heap.size, 13, none⟩ (.slice A m c)) = w2 at *
      clear x0 x1 x2 x3 x4 x5 x6 x7 x8 x9 x10 x11 x12 x13 fz0 fz1 fz2 fz3 fz4 fz5 fz6 fz7 fz8 fz9 fz10 fz11 fz12 fz13
      obtain ⟨x0, x1, x2, x3, x4, x5, x6, x7, x8, x9, x10, x11, x12, x13⟩ := cells14 HS2.out.1
      go_wp2_with (first
        | (go_at_call 29; refine (EN.out _ HS2.out.2).mono ?_; rintro r w3 ⟨A3, n3, c3, rfl, hs3, hy3, hx3, hb3⟩; have n30 := hx3 (by decide); subst n30; have HS3 := Lib.hid (HS2.out.next hb3 (by rfl) (by rfl) (by rfl) (by rfl)); clear hs3 hy3 hx3 hb3 x0 x1 x2 x3 x4 x5 x6 x7 x8 x9 x10 x11 x12 x13; obtain ⟨x0, x1, x2, x3, x4, x5, x6, x7, x8, x9, x10, x11, x12, x13⟩ := cells14 HS3.out.1)
        | (go_at_call 26; refine (QV.out _ HS3.out.2).mono ?_; rintro r w4 ⟨rfl, hb4⟩; have HS4 := Lib.hid (HS3.out.next hb4 (by rfl) (by rfl) (by rfl) (by rfl)); clear hb4)
        | (go_at_call 22; refine (AW.out _ HS4.out.2).mono ?_; rintro r w5 ⟨rfl, hb5⟩; have HS5 := Lib.hid (HS4.out.next hb5 (by rfl) (by rfl) (by rfl) (by rfl)); clear hb5))
      go_ret
      exact ⟨rfl, HS5.out.2⟩
    · have e0 : er = 2 := by rw [HER.out, if_pos hv, if_neg (by omega)]
      subst e0
      have d0 : decide (x < 0) = false := decide_eq_false (by omega)
      have d1 : decide (1048576 ≤ x) = true := decide_eq_true hx.2
      clear RE DE EQ HER hv hx
      go_enter Tryd.func9, Tryd.ntmps9
      go_upto_region 1 with fail
      generalize w.alloc (.cells _ 44) = w0 at *
      obtain ⟨x0, x1, x2, x3, x4, x5, x6, x7, x8, x9, x10, x11, x12, x13⟩ := cells14 HS0.out.1
      go_wp2_with fail
      refine (C1.out _).mono ?_
      rintro r w1 ⟨rfl, hb1⟩
      have HS1 := Lib.hid (HS0.out.next hb1 (by rfl) (by rfl) (by rfl) (by rfl))
      have HS2 : Hid (Sd w w.heap.size (.cells #[.int .i64 a0, .int .i64 a1, .int .i64 a2, .int .i64 a3, .int .i64 a4, .int .i64 t0, .int .i64 t1, .int .i64 t2, .int .i64 t3, .int .i64 h0, .int .i64 h1, .int .i64 h2, .int .i64 h3, .slice A m c] 44 (0, 0)) ((((((((((((((w1.setCell ⟨w.heap.size, 0, none⟩ (.int .i64 a0)).setCell ⟨w.heap.size, 1, none⟩ (.int .i64 a1)).setCell ⟨w.heap.size, 2, none⟩ (.int .i64 a2)).setCell ⟨w.heap.size, 3, none⟩ (.int .i64 a3)).setCell ⟨w.heap.size, 4, none⟩ (.int .i64 a4)).setCell ⟨w.heap.size, 5, none⟩ (.int .i64 t0)).setCell ⟨w.heap.size, 6, none⟩ (.int .i64 t1)).setCell ⟨w.heap.size, 7, none⟩ (.int .i64 t2)).setCell ⟨w.heap.size, 8, none⟩ (.int .i64 t3)).setCell ⟨w.heap.size, 9, none⟩ (.int .i64 h0)).setCell ⟨w.heap.size, 10, none⟩ (.int .i64 h1)).setCell ⟨w.heap.size, 11, none⟩ (.int .i64 h2)).setCell ⟨w.heap.size, 12, none⟩ (.int .i64 h3)).setCell ⟨w.heap.size, 13, none⟩ (.slice A m c))) := ⟨stored14 HS1.out.1, HS1.out.2.trans (below_of_grown (stored14_grown w1 w.heap.size (.int .i64 a0) (.int .i64 a1) (.int .i64 a2) (.int .i64 a3) (.int .i64 a4) (.int .i64 t0) (.int .i64 t1) (.int .i64 t2) (.int .i64 t3) (.int .i64 h0) (.int .i64 h1) (.int .i64 h2) (.int .i64 h3) (.slice A m c)) (Nat.le_refl _) HS1.out.2.size)⟩
      clear hb1 x0 x1 x2 x3 x4 x5 x6 x7 x8 x9 x10 x11 x12 x13
      obtain ⟨x0, x1, x2, x3, x4, x5, x6, x7, x8, x9, x10, x11, x12, x13⟩ := cells14 HS1.out.1
      obtain ⟨fz0, fz1, fz2, fz3, fz4, fz5, fz6, fz7, fz8, fz9, fz10, fz11, fz12, fz13⟩ := frozen14 HS1.out.1
      go_upto_region 2 with fail
      generalize ((((((((((((((w1.setCell ⟨w.heap.size, 0, none⟩ (.int .i64 a0)).setCell ⟨w.heap.size, 1, none⟩ (.int .i64 a1)).setCell ⟨w.heap.size, 2, none⟩ (.int .i64 a2)).setCell ⟨w.heap.size, 3, none⟩ (.int .i64 a3)).setCell ⟨w.heap.size, 4, none⟩ (.int .i64 a4)).setCell ⟨w.heap.size, 5, none⟩ (.int .i64 t0)).setCell ⟨w.heap.size, 6, none⟩ (.int .i64 t1)).setCell ⟨w.heap.size, 7, none⟩ (.int .i64 t2)).setCell ⟨w.heap.size, 8, none⟩ (.int .i64 t3)).setCell ⟨w.heap.size, 9, none⟩ (.int .i64 h0)).setCell ⟨w.heap.size, 10, none⟩ (.int .i64 h1)).setCell ⟨w.heap.size, 11, none⟩ (.int .i64 h2)).setCell ⟨w.heap.size, 12, none⟩ (.int .i64 h3)).setCell ⟨w.heap.size, 13, none⟩ (.slice A m c)) = w2 at *
      clear x0 x1 x2 x3 x4 x5 x6 x7 x8 x9 x10 x11 x12 x13 fz0 fz1 fz2 fz3 fz4 fz5 fz6 fz7 fz8 fz9 fz10 fz11 fz12 fz13
      obtain ⟨x0, x1, x2, x3, x4, x5, x6, x7, x8, x9, x10, x11, x12, x13⟩ := cells14 HS2.out.1
      go_wp2_with (first
        | (go_at_call 29; refine (EN.out _ HS2.out.2).mono ?_; rintro r w3 ⟨A3, n3, c3, rfl, hs3, hy3, hx3, hb3⟩; have n30 := hx3 (by decide); subst n30; have HS3 := Lib.hid (HS2.out.next hb3 (by rfl) (by rfl) (by rfl) (by rfl)); clear hs3 hy3 hx3 hb3 x0 x1 x2 x3 x4 x5 x6 x7 x8 x9 x10 x11 x12 x13; obtain ⟨x0, x1, x2, x3, x4, x5, x6, x7, x8, x9, x10, x11, x12, x13⟩ := cells14 HS3.out.1)
        | (go_at_call 26; refine (QV.out _ HS3.out.2).mono ?_; rintro r w4 ⟨rfl, hb4⟩; have HS4 := Lib.hid (HS3.out.next hb4 (by rfl) (by rfl) (by rfl) (by rfl)); clear hb4)
        | (go_at_call 22; refine (AW.out _ HS4.out.2).mono ?_; rintro r w5 ⟨rfl, hb5⟩; have HS5 := Lib.hid (HS4.out.next hb5 (by rfl) (by rfl) (by rfl) (by rfl)); clear hb5))
      go_ret
      exact ⟨rfl, HS5.out.2⟩
    · have e0 : er = 0 := by rw [HER.out, if_pos hv, if_pos hx]
      subst e0
      have RE2 := Lib.hid (RE.out hv hx)
      have DE2 := Lib.hid (DE.out hv hx)
      have d0 : decide (x < 0) = false := decide_eq_false (by omega)
      have d1 : decide (1048576 ≤ x) = false := decide_eq_false (by omega)
      clear RE DE HER hv hx
      go_enter Tryd.func9, Tryd.ntmps9
      go_upto_region 1 with fail
      generalize w.alloc (.cells _ 44) = w0 at *
      obtain ⟨x0, x1, x2, x3, x4, x5, x6, x7, x8, x9, x10, x11, x12, x13⟩ := cells14 HS0.out.1
      go_wp2_with fail
      refine (C1.out _).mono ?_
      rintro r w1 ⟨rfl, hb1⟩
      have HS1 := Lib.hid (HS0.out.next hb1 (by rfl) (by rfl) (by rfl) (by rfl))
      have HS2 : Hid (Sd w w.heap.size (.cells #[.int .i64 a0, .int .i64 a1, .int .i64 a2, .int .i64 a3, .int .i64 a4, .int .i64 t0, .int .i64 t1, .int .i64 t2, .int .i64 t3, .int .i64 h0, .int .i64 h1, .int .i64 h2, .int .i64 h3, .slice A m c] 44 (0, 0)) ((((((((((((((w1.setCell ⟨w.heap.size, 0, none⟩ (.int .i64 a0)).setCell ⟨w.heap.size, 1, none⟩ (.int .i64 a1)).setCell ⟨w.heap.size, 2, none⟩ (.int .i64 a2)).setCell ⟨w.heap.size, 3, none⟩ (.int .i64 a3)).setCell ⟨w.heap.size, 4, none⟩ (.int .i64 a4)).setCell ⟨w.heap.size, 5, none⟩ (.int .i64 t0)).setCell ⟨w.heap.size, 6, none⟩ (.int .i64 t1)).setCell ⟨w.heap.size, 7, none⟩ (.int .i64 t2)).setCell ⟨w.heap.size, 8, none⟩ (.int .i64 t3)).setCell ⟨w.heap.size, 9, none⟩ (.int .i64 h0)).setCell ⟨w.heap.size, 10, none⟩ (.int .i64 h1)).setCell ⟨w.heap.size, 11, none⟩ (.int .i64 h2)).setCell ⟨w.heap.size, 12, none⟩ (.int .i64 h3)).setCell ⟨w.heap.size, 13, none⟩ (.slice A m c))) := ⟨stored14 HS1.out.1, HS1.out.2.trans (below_of_grown (stored14_grown w1 w.heap.size (.int .i64 a0) (.int .i64 a1) (.int .i64 a2) (.int .i64 a3) (.int .i64 a4) (.int .i64 t0) (.int .i64 t1) (.int .i64 t2) (.int .i64 t3) (.int .i64 h0) (.int .i64 h1) (.int .i64 h2) (.int .i64 h3) (.slice A m c)) (Nat.le_refl _) HS1.out.2.size)⟩
      clear hb1 x0 x1 x2 x3 x4 x5 x6 x7 x8 x9 x10 x11 x12 x13
      obtain ⟨x0, x1, x2, x3, x4, x5, x6, x7, x8, x9, x10, x11, x12, x13⟩ := cells14 HS1.out.1
      obtain ⟨fz0, fz1, fz2, fz3, fz4, fz5, fz6, fz7, fz8, fz9, fz10, fz11, fz12, fz13⟩ := frozen14 HS1.out.1
      go_upto_region 2 with fail
      generalize ((((((((((((((w1.setCell ⟨w.heap.size, 0, none⟩ (.int .i64 a0)).setCell ⟨w.heap.size, 1, none⟩ (.int .i64 a1)).setCell ⟨w.heap.size, 2, none⟩ (.int .i64 a2)).setCell ⟨w.heap.size, 3, none⟩ (.int .i64 a3)).setCell ⟨w.heap.size, 4, none⟩ (.int .i64 a4)).setCell ⟨w.heap.size, 5, none⟩ (.int .i64 t0)).setCell ⟨w.heap.size, 6, none⟩ (.int .i64 t1)).setCell ⟨w.heap.size, 7, none⟩ (.int .i64 t2)).setCell ⟨w.heap.size, 8, none⟩ (.int .i64 t3)).setCell ⟨w.heap.size, 9, none⟩ (.int .i64 h0)).setCell ⟨w.heap.size, 10, none⟩ (.int .i64 h1)).setCell ⟨w.heap.size, 11, none⟩ (.int .i64 h2)).setCell ⟨w.heap.size, 12, none⟩ (.int .i64 h3)).setCell ⟨w.heap.size, 13, none⟩ (.slice A m c)) = w2 at *
      clear x0 x1 x2 x3 x4 x5 x6 x7 x8 x9 x10 x11 x12 x13 fz0 fz1 fz2 fz3 fz4 fz5 fz6 fz7 fz8 fz9 fz10 fz11 fz12 fz13
      obtain ⟨x0, x1, x2, x3, x4, x5, x6, x7, x8, x9, x10, x11, x12, x13⟩ := cells14 HS2.out.1
      go_wp2_with fail
      refine (EN.out _ HS2.out.2).mono ?_
      rintro r w3 ⟨A3, n3, c3, rfl, hs3, hy3, -, hb3⟩
      have HS3 := Lib.hid (HS2.out.next hb3 (by rfl) (by rfl) (by rfl) (by rfl))
      have hyy := hy3 (by first | exact rfl | exact trivial)
      obtain ⟨e64, hown⟩ := hyy
      subst e64
      obtain ⟨A3', c3', e3', hbs3, -, -, -, -⟩ := own_bytes hown HLT.out
      injection e3' with e3' _ e4'
      subst e3' e4'
      have HB3 := Lib.hid (And.intro hs3 hbs3)
      clear hs3 hy3 hb3 hown hbs3 x0 x1 x2 x3 x4 x5 x6 x7 x8 x9 x10 x11 x12 x13
      obtain ⟨x0, x1, x2, x3, x4, x5, x6, x7, x8, x9, x10, x11, x12, x13⟩ := cells14 HS3.out.1
      go_wp2_with fail
      refine (QV.out _ HS3.out.2).mono ?_
      rintro r w4 ⟨rfl, hb4⟩
      have HS4 := Lib.hid (HS3.out.next hb4 (by rfl) (by rfl) (by rfl) (by rfl))
      have HB4 := Lib.hid (HB3.out.2.below hb4 (Nat.le_refl _))
      clear hb4 x0 x1 x2 x3 x4 x5 x6 x7 x8 x9 x10 x11 x12 x13
      go_wp2_with fail
      refine (DE2.out w4 A3 c3 HS4.out.2 HB3.out.1 (bs_own HB4.out)).mono ?_
      rintro r w5 ⟨A5, n5, c5, rfl, hat5, hb5⟩
      have HS5 := Lib.hid (HS4.out.next hb5 (by rfl) (by rfl) (by rfl) (by rfl))
      have HB5 := Lib.hid ((bs_own HB4.out).below hb5 (Nat.le_refl _))
      have HAT := Lib.hid hat5
      have HSZ45 : Hid (w4.heap.size ≤ w5.heap.size) := hb5.size
      clear hb5 hat5 HB4
      have HS6 : Hid (Sd w w.heap.size _ (w5.alloc (.cells #[.int .i64 a0, .int .i64 a1, .int .i64 a2, .int .i64 a3, .int .i64 a4, .int .i64 t0, .int .i64 t1, .int .i64 t2, .int .i64 t3, .int .i64 h0, .int .i64 h1, .int .i64 h2, .int .i64 h3, .slice A5 n5 c5] 44))) := HS5.out.made _
      have HN6 : Hid ((w5.alloc (.cells #[.int .i64 a0, .int .i64 a1, .int .i64 a2, .int .i64 a3, .int .i64 a4, .int .i64 t0, .int .i64 t1, .int .i64 t2, .int .i64 t3, .int .i64 h0, .int .i64 h1, .int .i64 h2, .int .i64 h3, .slice A5 n5 c5] 44)).heap[w5.heap.size]? = some (.cells #[.int .i64 a0, .int .i64 a1, .int .i64 a2, .int .i64 a3, .int .i64 a4, .int .i64 t0, .int .i64 t1, .int .i64 t2, .int .i64 t3, .int .i64 h0, .int .i64 h1, .int .i64 h2, .int .i64 h3, .slice A5 n5 c5] 44 (0, 0))) := heap_alloc_new _ _
      have HB6 : Hid (Below w5.heap.size w5 (w5.alloc (.cells #[.int .i64 a0, .int .i64 a1, .int .i64 a2, .int .i64 a3, .int .i64 a4, .int .i64 t0, .int .i64 t1, .int .i64 t2, .int .i64 t3, .int .i64 h0, .int .i64 h1, .int .i64 h2, .int .i64 h3, .slice A5 n5 c5] 44))) := (Below.refl _ w5).alloc (Nat.le_refl _) _
      go_upto_region 8 with fail
      generalize w5.alloc (.cells #[.int .i64 a0, .int .i64 a1, .int .i64 a2, .int .i64 a3, .int .i64 a4, .int .i64 t0, .int .i64 t1, .int .i64 t2, .int .i64 t3, .int .i64 h0, .int .i64 h1, .int .i64 h2, .int .i64 h3, .slice A5 n5 c5] 44) = w6 at *
      have T6 : Hid (TwoIn w6 _ _ w.heap.size w5.heap.size w6) := ⟨⟨HS6.out.1, Below.refl _ _⟩, ⟨HN6.out, Below.refl _ _⟩⟩
      have HSZ46 : Hid (w4.heap.size ≤ w6.heap.size) := Nat.le_trans HSZ45.out HB6.out.size
      have HW6 : Hid (∀ W, Below w6.heap.size w6 W → Below w.heap.size w W ∧ Bs W w4.heap.size A3 en ∧ Ls W w5.heap.size A5 l ∧ w5.heap.size ≤ W.heap.size) := fun W hW =>
        ⟨HS6.out.2.trans (hW.mono HS6.out.2.size), (HB5.out.below HB6.out HSZ45.out).below hW HSZ46.out, ((HAT.out.2.2.below HB6.out (Nat.le_refl _)).below hW HB6.out.size), Nat.le_trans HB6.out.size hW.size⟩
      have HM5 : Hid (n5 = m) := HAT.out.2.1.symm.trans HKM.out
      have HRE : Hid (∀ W A8 c8, Below w6.heap.size w6 W → Bs W W.heap.size A8 en → Calls Tryd.prog 17 #[.slice A3 64 c3, .slice A8 64 c8] W (SaysQuiet true W)) := fun W A8 c8 hW h8 => by
        have h := refeq_any A3 A8 w4.heap.size W.heap.size 64 64 c3 c8 en en W HEL.out HEL.out (by decide) (by decide) (HW6.out W hW).2.1 h8
        rwa [decide_eq_true rfl] at h
      obtain ⟨x0, x1, x2, x3, x4, x5, x6, x7, x8, x9, x10, x11, x12, x13⟩ := cells14 T6.out.one
      obtain ⟨y0, y1, y2, y3, y4, y5, y6, y7, y8, y9, y10, y11, y12, y13⟩ := cells14 T6.out.two
      go_wp2_with (first
        | (go_at_call 28; refine (EQ.out _ A5 n5 c5 (HW6.out _ (T8.out.drawn q9).below).1 HM5.out ((HW6.out _ (T8.out.drawn q9).below).2.2.1.more (HW6.out _ (T8.out.drawn q9).below).2.2.2)).mono ?_; rintro r w9 ⟨rfl, hb9⟩; have T9 := Lib.hid ((T8.out.drawn q9).next hb9 (by rfl) (by rfl) (by rfl) (by rfl)); clear hb9)
        | (go_at_call 17; refine (HRE.out _ _ _ T8.out.below HB8.out).mono ?_; rintro r w9' ⟨rfl, q9, rfl⟩; obtain ⟨x0, x1, x2, x3, x4, x5, x6, x7, x8, x9, x10, x11, x12, x13⟩ := cells14 (T8.out.drawn q9).one; obtain ⟨y0, y1, y2, y3, y4, y5, y6, y7, y8, y9, y10, y11, y12, y13⟩ := cells14 (T8.out.drawn q9).two)
        | (go_at_call 31; refine (RE2.out _ (HW6.out _ T7.out.below).1).mono ?_; rintro r w8 ⟨A8, c8, rfl, -, hbs8, hb8⟩; have T8 := Lib.hid (T7.out.next hb8 (by rfl) (by rfl) (by rfl) (by rfl)); have HB8 := Lib.hid hbs8; clear hbs8 hb8 x0 x1 x2 x3 x4 x5 x6 x7 x8 x9 x10 x11 x12 x13 y0 y1 y2 y3 y4 y5 y6 y7 y8 y9 y10 y11 y12 y13)
        | (go_at_call 22; refine (AW.out _ (HW6.out _ T6.out.below).1).mono ?_; rintro r w7 ⟨rfl, hb7⟩; have T7 := Lib.hid (T6.out.next hb7 (by rfl) (by rfl) (by rfl) (by rfl)); clear hb7 x0 x1 x2 x3 x4 x5 x6 x7 x8 x9 x10 x11 x12 x13 y0 y1 y2 y3 y4 y5 y6 y7 y8 y9 y10 y11 y12 y13; obtain ⟨x0, x1, x2, x3, x4, x5, x6, x7, x8, x9, x10, x11, x12, x13⟩ := cells14 T7.out.one; obtain ⟨y0, y1, y2, y3, y4, y5, y6, y7, y8, y9, y10, y11, y12, y13⟩ := cells14 T7.out.two))
      go_ret
      exact ⟨ret_bool (by simp), (HW6.out _ T9.out.below).1⟩
  · have e0 : er = 4 := by rw [HER.out, if_neg hv]
    subst e0
    clear RE DE EQ HER hv
    go_enter Tryd.func9, Tryd.ntmps9
    go_upto_region 1 with fail
    generalize w.alloc (.cells _ 44) = w0 at *
    obtain ⟨x0, x1, x2, x3, x4, x5, x6, x7, x8, x9, x10, x11, x12, x13⟩ := cells14 HS0.out.1
    go_wp2_with fail
    refine (C1.out _).mono ?_
    rintro r w1 ⟨rfl, hb1⟩
    have HS1 := Lib.hid (HS0.out.next hb1 (by rfl) (by rfl) (by rfl) (by rfl))
    have HS2 : Hid (Sd w w.heap.size (.cells #[.int .i64 a0, .int .i64 a1, .int .i64 a2, .int .i64 a3, .int .i64 a4, .int .i64 t0, .int .i64 t1, .int .i64 t2, .int .i64 t3, .int .i64 h0, .int .i64 h1, .int .i64 h2, .int .i64 h3, .slice A m c] 44 (0, 0)) ((((((((((((((w1.setCell ⟨w.heap.size, 0, none⟩ (.int .i64 a0)).setCell ⟨w.heap.size, 1, none⟩ (.int .i64 a1)).setCell ⟨w.heap.size, 2, none⟩ (.int .i64 a2)).setCell ⟨w.heap.size, 3, none⟩ (.int .i64 a3)).setCell ⟨w.heap.size, 4, none⟩ (.int .i64 a4)).setCell ⟨w.heap.size, 5, none⟩ (.int .i64 t0)).setCell ⟨w.heap.size, 6, none⟩ (.int .i64 t1)).setCell ⟨w.heap.size, 7, none⟩ (.int .i64 t2)).setCell ⟨w.heap.size, 8, none⟩ (.int .i64 t3)).setCell ⟨w.heap.size, 9, none⟩ (.int .i64 h0)).setCell ⟨w.heap.size, 10, none⟩ (.int .i64 h1)).setCell ⟨w.heap.size, 11, none⟩ (.int .i64 h2)).setCell ⟨w.heap.size, 12, none⟩ (.int .i64 h3)).setCell ⟨w.heap.size, 13, none⟩ (.slice A m c))) := ⟨stored14 HS1.out.1, HS1.out.2.trans (below_of_grown (stored14_grown w1 w.heap.size (.int .i64 a0) (.int .i64 a1) (.int .i64 a2) (.int .i64 a3) (.int .i64 a4) (.int .i64 t0) (.int .i64 t1) (.int .i64 t2) (.int .i64 t3) (.int .i64 h0) (.int .i64 h1) (.int .i64 h2) (.int .i64 h3) (.slice A m c)) (Nat.le_refl _) HS1.out.2.size)⟩
    clear hb1 x0 x1 x2 x3 x4 x5 x6 x7 x8 x9 x10 x11 x12 x13
    obtain ⟨x0, x1, x2, x3, x4, x5, x6, x7, x8, x9, x10, x11, x12, x13⟩ := cells14 HS1.out.1
    obtain ⟨fz0, fz1, fz2, fz3, fz4, fz5, fz6, fz7, fz8, fz9, fz10, fz11, fz12, fz13⟩ := frozen14 HS1.out.1
    go_upto_region 2 with fail
    generalize ((((((((((((((w1.setCell ⟨w.heap.size, 0, none⟩ (.int .i64 a0)).setCell ⟨w.heap.size, 1, none⟩ (.int .i64 a1)).setCell ⟨w.heap.size, 2, none⟩ (.int .i64 a2)).setCell ⟨w.heap.size, 3, none⟩ (.int .i64 a3)).setCell ⟨w.heap.size, 4, none⟩ (.int .i64 a4)).setCell ⟨w.heap.size, 5, none⟩ (.int .i64 t0)).setCell ⟨w.heap.size, 6, none⟩ (.int .i64 t1)).setCell ⟨w.heap.size, 7, none⟩ (.int .i64 t2)).setCell ⟨w.heap.size, 8, none⟩ (.int .i64 t3)).setCell ⟨w.heap.size, 9, none⟩ (.int .i64 h0)).setCell ⟨w.heap.size, 10, none⟩ (.int .i64 h1)).setCell ⟨w.heap.size, 11, none⟩ (.int .i64 h2)).setCell ⟨w.heap.size, 12, none⟩ (.int .i64 h3)).setCell ⟨w.heap.size, 13, none⟩ (.slice A m c)) = w2 at *
    clear x0 x1 x2 x3 x4 x5 x6 x7 x8 x9 x10 x11 x12 x13 fz0 fz1 fz2 fz3 fz4 fz5 fz6 fz7 fz8 fz9 fz10 fz11 fz12 fz13
    obtain ⟨x0, x1, x2, x3, x4, x5, x6, x7, x8, x9, x10, x11, x12, x13⟩ := cells14 HS2.out.1
    go_wp2_with (first
      | (go_at_call 29; refine (EN.out _ HS2.out.2).mono ?_; rintro r w3 ⟨A3, n3, c3, rfl, hs3, hy3, hx3, hb3⟩; have n30 := hx3 (by decide); subst n30; have HS3 := Lib.hid (HS2.out.next hb3 (by rfl) (by rfl) (by rfl) (by rfl)); clear hs3 hy3 hx3 hb3 x0 x1 x2 x3 x4 x5 x6 x7 x8 x9 x10 x11 x12 x13; obtain ⟨x0, x1, x2, x3, x4, x5, x6, x7, x8, x9, x10, x11, x12, x13⟩ := cells14 HS3.out.1)
      | (go_at_call 26; refine (QV.out _ HS3.out.2).mono ?_; rintro r w4 ⟨rfl, hb4⟩; have HS4 := Lib.hid (HS3.out.next hb4 (by rfl) (by rfl) (by rfl) (by rfl)); clear hb4)
      | (go_at_call 22; refine (AW.out _ HS4.out.2).mono ?_; rintro r w5 ⟨rfl, hb5⟩; have HS5 := Lib.hid (HS4.out.next hb5 (by rfl) (by rfl) (by rfl) (by rfl)); clear hb5))
    go_ret
    exact ⟨rfl, HS5.out.2⟩
end Go.Proofs.YtjfgnojmdbfnmaaDoor
