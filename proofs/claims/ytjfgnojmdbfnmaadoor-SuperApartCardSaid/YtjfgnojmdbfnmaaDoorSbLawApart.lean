/-
  The walk of the law SuperApart.
-/
import Derived.Test.YtjfgnojmdbfnmaaDoorSbLawWords
import Derived.Test.YtjfgnojmdbfnmaaDoorSbRefValid
namespace Go.Proofs.YtjfgnojmdbfnmaaDoor
open Go.RowKit
theorem TwoIn.drawn {w W : World} {o0 o1 : Obj} {g0 g1 : Nat} (h : TwoIn w o0 o1 g0 g1 W) (k : Nat) : TwoIn w o0 o1 g0 g1 (W.drewN k) := ⟨⟨h.1.1, below_drawn h.1.2 k⟩, ⟨h.2.1, below_drawn h.2.2 k⟩⟩
set_option maxHeartbeats 16000000 in
theorem superapart_any (a0 a1 a2 a3 a4 t0 t1 t2 t3 h0 h1 h2 h3 b0 b1 b2 b3 b4 u0 u1 u2 u3 g0 g1 g2 g3 : Int) (A A' : Option Addr) (n c n' c' : Nat) (l l' : List Sb.L) (x : Int) (w : World) (hs : SlIs A n c) (hs' : SlIs A' n' c') (hl : Hid (l.length = n ∧ Ls w w.heap.size A l)) (hl' : Hid (l'.length = n' ∧ Ls w w.heap.size A' l')) (ht : Hid (TabW w)) (hz : 0 < w.heap.size) :
    Calls Tryd.prog 11 #[.agg #[.int .i64 a0, .int .i64 a1, .int .i64 a2, .int .i64 a3, .int .i64 a4, .int .i64 t0, .int .i64 t1, .int .i64 t2, .int .i64 t3, .int .i64 h0, .int .i64 h1, .int .i64 h2, .int .i64 h3, .slice A n c], .agg #[.int .i64 b0, .int .i64 b1, .int .i64 b2, .int .i64 b3, .int .i64 b4, .int .i64 u0, .int .i64 u1, .int .i64 u2, .int .i64 u3, .int .i64 g0, .int .i64 g1, .int .i64 g2, .int .i64 g3, .slice A' n' c'], .int .i64 x] w fun r w' => r = .returned (.bool true) ∧ Below w.heap.size w w' := by
  obtain ⟨m, hm⟩ := min_is n 4
  obtain ⟨m', hm'⟩ := min_is n' 4
  have hm4 : m ≤ 4 := by unfold MinIs at hm; omega
  have hm4' : m' ≤ 4 := by unfold MinIs at hm'; omega
  have C1 := Lib.hid (fun W => sbshort_any a0 a1 a2 a3 a4 t0 t1 t2 t3 h0 h1 h2 h3 A n c m hs hm W)
  have C2 := Lib.hid (fun W => sbshort_any b0 b1 b2 b3 b4 u0 u1 u2 u3 g0 g1 g2 g3 A' n' c' m' hs' hm' W)
  obtain ⟨k1, k2⟩ := ls_take hl.out.1 hm hl.out.2
  obtain ⟨k1', k2'⟩ := ls_take hl'.out.1 hm' hl'.out.2
  have HL : Hid (∀ W, Below w.heap.size w W → Ls W w.heap.size A (l.take m)) := fun W hW => k2.below hW (Nat.le_refl _)
  have HL' : Hid (∀ W, Below w.heap.size w W → Ls W w.heap.size A' (l'.take m')) := fun W hW => k2'.below hW (Nat.le_refl _)
  have HK : Hid ((l.take m).length = m) := k1
  have HK' : Hid ((l'.take m').length = m') := k1'
  have HSL := Lib.hid (min_sl hs hm)
  have HSL' := Lib.hid (min_sl hs' hm')
  have HTB : Hid (∀ W, Below w.heap.size w W → TabW W ∧ 0 < W.heap.size) := fun W hW => ⟨ht.out.below hW hz, Nat.lt_of_lt_of_le hz hW.size⟩
  clear k1 k2 k1' k2' hl hl' hm hm' hs hs' ht hz
  generalize l.take m = l at *
  generalize l'.take m' = l' at *
  have AW : Hid (∀ W, Below w.heap.size w W → Calls Tryd.prog 22 #[] W fun r w' => r = .returned (.bool true) ∧ Below W.heap.size W w') := fun W hW => sbawake_any W (HTB.out W hW).1 (HTB.out W hW).2
  have EN : Hid (∀ W, Below w.heap.size w W → Calls Tryd.prog 29 #[.agg #[.int .i64 a0, .int .i64 a1, .int .i64 a2, .int .i64 a3, .int .i64 a4, .int .i64 t0, .int .i64 t1, .int .i64 t2, .int .i64 t3, .int .i64 h0, .int .i64 h1, .int .i64 h2, .int .i64 h3, .slice A m c], .int .i64 x] W (FrEnc W (Sb.enc x ⟨a0, a1, a2, a3, a4, ⟨t0, t1, t2, t3⟩, ⟨h0, h1, h2, h3⟩, l⟩) (Sb.err ⟨a0, a1, a2, a3, a4, ⟨t0, t1, t2, t3⟩, ⟨h0, h1, h2, h3⟩, l⟩ x))) := fun W hW => sbencode_any a0 a1 a2 a3 a4 t0 t1 t2 t3 h0 h1 h2 h3 x A w.heap.size m c l W hW.size HSL.out HK.out (HL.out W hW) (HTB.out W hW).1 (HTB.out W hW).2
  have EN' : Hid (∀ W, Below w.heap.size w W → Calls Tryd.prog 29 #[.agg #[.int .i64 b0, .int .i64 b1, .int .i64 b2, .int .i64 b3, .int .i64 b4, .int .i64 u0, .int .i64 u1, .int .i64 u2, .int .i64 u3, .int .i64 g0, .int .i64 g1, .int .i64 g2, .int .i64 g3, .slice A' m' c'], .int .i64 x] W (FrEnc W (Sb.enc x ⟨b0, b1, b2, b3, b4, ⟨u0, u1, u2, u3⟩, ⟨g0, g1, g2, g3⟩, l'⟩) (Sb.err ⟨b0, b1, b2, b3, b4, ⟨u0, u1, u2, u3⟩, ⟨g0, g1, g2, g3⟩, l'⟩ x))) := fun W hW => sbencode_any b0 b1 b2 b3 b4 u0 u1 u2 u3 g0 g1 g2 g3 x A' w.heap.size m' c' l' W hW.size HSL'.out HK'.out (HL'.out W hW) (HTB.out W hW).1 (HTB.out W hW).2
  have E2 : Hid (∀ W, Below w.heap.size w W → Calls Tryd.prog 28 #[.agg #[.int .i64 a0, .int .i64 a1, .int .i64 a2, .int .i64 a3, .int .i64 a4, .int .i64 t0, .int .i64 t1, .int .i64 t2, .int .i64 t3, .int .i64 h0, .int .i64 h1, .int .i64 h2, .int .i64 h3, .slice A m c], .agg #[.int .i64 b0, .int .i64 b1, .int .i64 b2, .int .i64 b3, .int .i64 b4, .int .i64 u0, .int .i64 u1, .int .i64 u2, .int .i64 u3, .int .i64 g0, .int .i64 g1, .int .i64 g2, .int .i64 g3, .slice A' m' c']] W fun r w' => r = .returned (.bool (Sb.same ⟨a0, a1, a2, a3, a4, ⟨t0, t1, t2, t3⟩, ⟨h0, h1, h2, h3⟩, l⟩ ⟨b0, b1, b2, b3, b4, ⟨u0, u1, u2, u3⟩, ⟨g0, g1, g2, g3⟩, l'⟩)) ∧ Below W.heap.size W w') := fun W hW => refsbeq_any a0 a1 a2 a3 a4 t0 t1 t2 t3 h0 h1 h2 h3 b0 b1 b2 b3 b4 u0 u1 u2 u3 g0 g1 g2 g3 A A' w.heap.size m m' c c' l l' W hW.size HK.out HK'.out (by omega) (by omega) (HL.out W hW) (HL'.out W hW)
  have HSM : Hid (Sb.err ⟨a0, a1, a2, a3, a4, ⟨t0, t1, t2, t3⟩, ⟨h0, h1, h2, h3⟩, l⟩ x = 0 → Sb.err ⟨b0, b1, b2, b3, b4, ⟨u0, u1, u2, u3⟩, ⟨g0, g1, g2, g3⟩, l'⟩ x = 0 → decide (Sb.enc x ⟨a0, a1, a2, a3, a4, ⟨t0, t1, t2, t3⟩, ⟨h0, h1, h2, h3⟩, l⟩ = Sb.enc x ⟨b0, b1, b2, b3, b4, ⟨u0, u1, u2, u3⟩, ⟨g0, g1, g2, g3⟩, l'⟩) = Sb.same ⟨a0, a1, a2, a3, a4, ⟨t0, t1, t2, t3⟩, ⟨h0, h1, h2, h3⟩, l⟩ ⟨b0, b1, b2, b3, b4, ⟨u0, u1, u2, u3⟩, ⟨g0, g1, g2, g3⟩, l'⟩) := fun j1 j2 => by
    have v1 : Sb.valid ⟨a0, a1, a2, a3, a4, ⟨t0, t1, t2, t3⟩, ⟨h0, h1, h2, h3⟩, l⟩ := by
      by_cases h : Sb.valid ⟨a0, a1, a2, a3, a4, ⟨t0, t1, t2, t3⟩, ⟨h0, h1, h2, h3⟩, l⟩
      · exact h
      · unfold Sb.err at j1; rw [if_neg h] at j1; cases j1
    have v2 : Sb.valid ⟨b0, b1, b2, b3, b4, ⟨u0, u1, u2, u3⟩, ⟨g0, g1, g2, g3⟩, l'⟩ := by
      by_cases h : Sb.valid ⟨b0, b1, b2, b3, b4, ⟨u0, u1, u2, u3⟩, ⟨g0, g1, g2, g3⟩, l'⟩
      · exact h
      · unfold Sb.err at j2; rw [if_neg h] at j2; cases j2
    have j3 := Sb.apart x _ _ v1 v2
    cases hq : Sb.same ⟨a0, a1, a2, a3, a4, ⟨t0, t1, t2, t3⟩, ⟨h0, h1, h2, h3⟩, l⟩ ⟨b0, b1, b2, b3, b4, ⟨u0, u1, u2, u3⟩, ⟨g0, g1, g2, g3⟩, l'⟩ with
    | true => exact decide_eq_true (j3.2 ((Sb.same_iff _ _).1 hq))
    | false => exact decide_eq_false fun e => by rw [(Sb.same_iff _ _).2 (j3.1 e)] at hq; cases hq
  have HLA : Hid ((∀ y ∈ Sb.enc x ⟨a0, a1, a2, a3, a4, ⟨t0, t1, t2, t3⟩, ⟨h0, h1, h2, h3⟩, l⟩, y < 256) ∧ (Sb.enc x ⟨a0, a1, a2, a3, a4, ⟨t0, t1, t2, t3⟩, ⟨h0, h1, h2, h3⟩, l⟩).length = 64) := ⟨Sb.enc_lt x _, Sb.enc_length x _⟩
  have HLB : Hid ((∀ y ∈ Sb.enc x ⟨b0, b1, b2, b3, b4, ⟨u0, u1, u2, u3⟩, ⟨g0, g1, g2, g3⟩, l'⟩, y < 256) ∧ (Sb.enc x ⟨b0, b1, b2, b3, b4, ⟨u0, u1, u2, u3⟩, ⟨g0, g1, g2, g3⟩, l'⟩).length = 64) := ⟨Sb.enc_lt x _, Sb.enc_length x _⟩
  unfold FrEnc at EN EN'
  generalize Sb.same ⟨a0, a1, a2, a3, a4, ⟨t0, t1, t2, t3⟩, ⟨h0, h1, h2, h3⟩, l⟩ ⟨b0, b1, b2, b3, b4, ⟨u0, u1, u2, u3⟩, ⟨g0, g1, g2, g3⟩, l'⟩ = sm at *
  generalize Sb.enc x ⟨a0, a1, a2, a3, a4, ⟨t0, t1, t2, t3⟩, ⟨h0, h1, h2, h3⟩, l⟩ = en at *
  generalize Sb.enc x ⟨b0, b1, b2, b3, b4, ⟨u0, u1, u2, u3⟩, ⟨g0, g1, g2, g3⟩, l'⟩ = en' at *
  generalize Sb.err ⟨a0, a1, a2, a3, a4, ⟨t0, t1, t2, t3⟩, ⟨h0, h1, h2, h3⟩, l⟩ x = er at *
  generalize Sb.err ⟨b0, b1, b2, b3, b4, ⟨u0, u1, u2, u3⟩, ⟨g0, g1, g2, g3⟩, l'⟩ x = er' at *
  have HD0 := Lib.hid (sd2_new w #[.int .i64 a0, .int .i64 a1, .int .i64 a2, .int .i64 a3, .int .i64 a4, .int .i64 t0, .int .i64 t1, .int .i64 t2, .int .i64 t3, .int .i64 h0, .int .i64 h1, .int .i64 h2, .int .i64 h3, .slice A n c] #[.int .i64 b0, .int .i64 b1, .int .i64 b2, .int .i64 b3, .int .i64 b4, .int .i64 u0, .int .i64 u1, .int .i64 u2, .int .i64 u3, .int .i64 g0, .int .i64 g1, .int .i64 g2, .int .i64 g3, .slice A' n' c'] 44 44)
  clear HL HL' HK HK' HSL HSL' HTB hm4 hm4'
  go_enter Tryd.func11, Tryd.ntmps11
  go_upto_region 1 with fail
  generalize (w.alloc (.cells #[.int .i64 a0, .int .i64 a1, .int .i64 a2, .int .i64 a3, .int .i64 a4, .int .i64 t0, .int .i64 t1, .int .i64 t2, .int .i64 t3, .int .i64 h0, .int .i64 h1, .int .i64 h2, .int .i64 h3, .slice A n c] 44)).alloc (.cells #[.int .i64 b0, .int .i64 b1, .int .i64 b2, .int .i64 b3, .int .i64 b4, .int .i64 u0, .int .i64 u1, .int .i64 u2, .int .i64 u3, .int .i64 g0, .int .i64 g1, .int .i64 g2, .int .i64 g3, .slice A' n' c'] 44) = w0 at *
  obtain ⟨x0, x1, x2, x3, x4, x5, x6, x7, x8, x9, x10, x11, x12, x13⟩ := cells14 HD0.out.1
  obtain ⟨y0, y1, y2, y3, y4, y5, y6, y7, y8, y9, y10, y11, y12, y13⟩ := cells14 HD0.out.2.1
  go_cut [5] (fun _ wx => Hid (Sd2 w (.cells #[.int .i64 a0, .int .i64 a1, .int .i64 a2, .int .i64 a3, .int .i64 a4, .int .i64 t0, .int .i64 t1, .int .i64 t2, .int .i64 t3, .int .i64 h0, .int .i64 h1, .int .i64 h2, .int .i64 h3, .slice A m c] 44 (0, 0)) (.cells #[.int .i64 b0, .int .i64 b1, .int .i64 b2, .int .i64 b3, .int .i64 b4, .int .i64 u0, .int .i64 u1, .int .i64 u2, .int .i64 u3, .int .i64 g0, .int .i64 g1, .int .i64 g2, .int .i64 g3, .slice A' m' c'] 44 (0, 0)) wx))
  case first =>
    go_region_with (go_at_call 21; first
      | ((with_reducible refine (C1.out _).mono ?_); rintro r w1 ⟨rfl, hb1⟩; have HD1 := Lib.hid (HD0.out.next hb1 (by rfl) (by rfl) (by rfl) (by rfl)); clear x0 x1 x2 x3 x4 x5 x6 x7 x8 x9 x10 x11 x12 x13 y0 y1 y2 y3 y4 y5 y6 y7 y8 y9 y10 y11 y12 y13 hb1; obtain ⟨x0, x1, x2, x3, x4, x5, x6, x7, x8, x9, x10, x11, x12, x13⟩ := cells14 HD1.out.1; obtain ⟨y0, y1, y2, y3, y4, y5, y6, y7, y8, y9, y10, y11, y12, y13⟩ := cells14 HD1.out.2.1)
      | ((with_reducible refine (C2.out _).mono ?_); rintro r w2 ⟨rfl, hb2⟩; have HD2 := Lib.hid (HD1.out.next hb2 (by rfl) (by rfl) (by rfl) (by rfl)); clear x0 x1 x2 x3 x4 x5 x6 x7 x8 x9 x10 x11 x12 x13 y0 y1 y2 y3 y4 y5 y6 y7 y8 y9 y10 y11 y12 y13 hb2; obtain ⟨x0, x1, x2, x3, x4, x5, x6, x7, x8, x9, x10, x11, x12, x13⟩ := cells14 HD2.out.1; obtain ⟨y0, y1, y2, y3, y4, y5, y6, y7, y8, y9, y10, y11, y12, y13⟩ := cells14 HD2.out.2.1; obtain ⟨fz0, fz1, fz2, fz3, fz4, fz5, fz6, fz7, fz8, fz9, fz10, fz11, fz12, fz13⟩ := frozen14 HD2.out.1; obtain ⟨gz0, gz1, gz2, gz3, gz4, gz5, gz6, gz7, gz8, gz9, gz10, gz11, gz12, gz13⟩ := frozen14 HD2.out.2.1))
    all_goals
      (try go_wp2_with fail)
      go_meet
      exact two_stored HD2.out
  case rest =>
    have HC := Lib.hid hcut.out
    clear hcut C1 C2 x0 x1 x2 x3 x4 x5 x6 x7 x8 x9 x10 x11 x12 x13 y0 y1 y2 y3 y4 y5 y6 y7 y8 y9 y10 y11 y12 y13 HD0
    generalize wc = w2 at *
    have T1 : Hid (TwoIn w _ _ w.heap.size (w.heap.size + 1) w2) := ⟨⟨HC.out.1, HC.out.2.2⟩, ⟨HC.out.2.1, HC.out.2.2⟩⟩
    obtain ⟨x0, x1, x2, x3, x4, x5, x6, x7, x8, x9, x10, x11, x12, x13⟩ := cells14 HC.out.1
    obtain ⟨y0, y1, y2, y3, y4, y5, y6, y7, y8, y9, y10, y11, y12, y13⟩ := cells14 HC.out.2.1
    clear HC
    go_wp2_with fail
    refine (EN.out _ T1.out.below).mono ?_
    rintro r w3 ⟨A3, n3, c3, rfl, hs3, hy3, hx3, hb3⟩
    have T2 := Lib.hid (T1.out.next hb3 (by rfl) (by rfl) (by rfl) (by rfl))
    have HY3 := Lib.hid (And.intro hs3 hy3)
    clear hs3 hy3 hx3 hb3 x0 x1 x2 x3 x4 x5 x6 x7 x8 x9 x10 x11 x12 x13 y0 y1 y2 y3 y4 y5 y6 y7 y8 y9 y10 y11 y12 y13
    obtain ⟨x0, x1, x2, x3, x4, x5, x6, x7, x8, x9, x10, x11, x12, x13⟩ := cells14 T2.out.one
    obtain ⟨y0, y1, y2, y3, y4, y5, y6, y7, y8, y9, y10, y11, y12, y13⟩ := cells14 T2.out.two
    go_wp2_with fail
    refine (EN'.out _ T2.out.below).mono ?_
    rintro r w4 ⟨A4, n4, c4, rfl, hs4, hy4, hx4, hb4⟩
    have T3 := Lib.hid (T2.out.next hb4 (by rfl) (by rfl) (by rfl) (by rfl))
    have HY4 := Lib.hid (And.intro hs4 hy4)
    have HB34 := Lib.hid hb4
    clear hs4 hy4 hx4 hb4 x0 x1 x2 x3 x4 x5 x6 x7 x8 x9 x10 x11 x12 x13 y0 y1 y2 y3 y4 y5 y6 y7 y8 y9 y10 y11 y12 y13
    by_cases j1 : er = 0
    · by_cases j2 : er' = 0
      · have HSN := Lib.hid (HSM.out j1 j2)
        obtain ⟨e64, hown3⟩ := HY3.out.2 j1
        subst e64
        obtain ⟨e64, hown4⟩ := HY4.out.2 j2
        subst e64
        subst j1 j2
        obtain ⟨A3', c3', e3', hbs3, -, -, -, -⟩ := own_bytes hown3 HLA.out.1
        injection e3' with e3' _ e4'
        subst e3' e4'
        obtain ⟨A4', c4', e4', hbs4, -, -, -, -⟩ := own_bytes hown4 HLB.out.1
        injection e4' with e4' _ e5'
        subst e4' e5'
        have HBA : Hid (Bs w4 w3.heap.size A3 en ∧ w3.heap.size ≤ w4.heap.size) := ⟨hbs3.below HB34.out (Nat.le_refl _), HB34.out.size⟩
        have HBB : Hid (Bs w4 w4.heap.size A4 en') := hbs4
        have HRE : Hid (∀ W, Below w4.heap.size w4 W → Calls Tryd.prog 17 #[.slice A3 64 c3, .slice A4 64 c4] W (SaysQuiet sm W)) := fun W hW => by
          have h := refeq_any A3 A4 w3.heap.size w4.heap.size 64 64 c3 c4 en en' W HLA.out.2 HLB.out.2 (by decide) (by decide) (HBA.out.1.below hW HBA.out.2) (HBB.out.below hW (Nat.le_refl _))
          rwa [HSN.out] at h
        clear hown3 hown4 hbs3 hbs4 HY3 HY4 HSM EN EN'
        have T3d := Lib.hid T3.out.drew
        go_upto_region 6 with fail
        go_region_held3 (fun W => (W.cell? ⟨w.heap.size, 0, none⟩ = some (.int .i64 a0) ∧ W.cell? ⟨w.heap.size, 1, none⟩ = some (.int .i64 a1) ∧ W.cell? ⟨w.heap.size, 2, none⟩ = some (.int .i64 a2) ∧ W.cell? ⟨w.heap.size, 3, none⟩ = some (.int .i64 a3) ∧ W.cell? ⟨w.heap.size, 4, none⟩ = some (.int .i64 a4) ∧ W.cell? ⟨w.heap.size, 5, none⟩ = some (.int .i64 t0) ∧ W.cell? ⟨w.heap.size, 6, none⟩ = some (.int .i64 t1) ∧ W.cell? ⟨w.heap.size, 7, none⟩ = some (.int .i64 t2) ∧ W.cell? ⟨w.heap.size, 8, none⟩ = some (.int .i64 t3) ∧ W.cell? ⟨w.heap.size, 9, none⟩ = some (.int .i64 h0) ∧ W.cell? ⟨w.heap.size, 10, none⟩ = some (.int .i64 h1) ∧ W.cell? ⟨w.heap.size, 11, none⟩ = some (.int .i64 h2) ∧ W.cell? ⟨w.heap.size, 12, none⟩ = some (.int .i64 h3) ∧ W.cell? ⟨w.heap.size, 13, none⟩ = some (.slice A m c)) ∧ (W.cell? ⟨w.heap.size + 1, 0, none⟩ = some (.int .i64 b0) ∧ W.cell? ⟨w.heap.size + 1, 1, none⟩ = some (.int .i64 b1) ∧ W.cell? ⟨w.heap.size + 1, 2, none⟩ = some (.int .i64 b2) ∧ W.cell? ⟨w.heap.size + 1, 3, none⟩ = some (.int .i64 b3) ∧ W.cell? ⟨w.heap.size + 1, 4, none⟩ = some (.int .i64 b4) ∧ W.cell? ⟨w.heap.size + 1, 5, none⟩ = some (.int .i64 u0) ∧ W.cell? ⟨w.heap.size + 1, 6, none⟩ = some (.int .i64 u1) ∧ W.cell? ⟨w.heap.size + 1, 7, none⟩ = some (.int .i64 u2) ∧ W.cell? ⟨w.heap.size + 1, 8, none⟩ = some (.int .i64 u3) ∧ W.cell? ⟨w.heap.size + 1, 9, none⟩ = some (.int .i64 g0) ∧ W.cell? ⟨w.heap.size + 1, 10, none⟩ = some (.int .i64 g1) ∧ W.cell? ⟨w.heap.size + 1, 11, none⟩ = some (.int .i64 g2) ∧ W.cell? ⟨w.heap.size + 1, 12, none⟩ = some (.int .i64 g3) ∧ W.cell? ⟨w.heap.size + 1, 13, none⟩ = some (.slice A' m' c')))
          (first
            | (revert T5; intro T5; have hh := T5.out; with_reducible exact ⟨cells14 hh.one, cells14 hh.two⟩)
            | (revert T4; intro T4; have hh := T4.out; with_reducible exact ⟨cells14 (hh.drawn _).one, cells14 (hh.drawn _).two⟩)
            | (revert T4; intro T4; have hh := T4.out; with_reducible exact ⟨cells14 hh.one, cells14 hh.two⟩)
            | (have hh := T3d.out; with_reducible exact ⟨cells14 hh.one, cells14 hh.two⟩)
            | go_keep)
          (first
            | (go_at_call 28; revert T4; intro T4; refine (E2.out _ (T4.out.drawn _).below).mono ?_; rintro r w6 ⟨rfl, hb⟩; have T5 := Lib.hid ((T4.out.drawn _).next hb (by rfl) (by rfl) (by rfl) (by rfl)); clear hb)
            | (go_at_call 17; revert X4; intro X4; refine (HRE.out _ X4.out).mono ?_; rintro r w9 ⟨rfl, q9, rfl⟩)
            | (go_at_call 22; refine (AW.out _ T3d.out.below).mono ?_; rintro r w5 ⟨rfl, hb⟩; have T4 := Lib.hid (T3d.out.next hb (by rfl) (by rfl) (by rfl) (by rfl)); have X4 : Hid (Below w4.heap.size w4 w5) := ⟨hb.os, hb.tape, hb.output, hb.size, hb.block⟩; clear hb))
        all_goals
          (try go_wp2_with fail)
          go_ret
          exact ⟨ret_bool (by simp), T5.out.below⟩
      · have f1 : (er' != 0) = true := by rw [bne_iff_ne]; exact j2
        subst j1
        clear j2 HY3 HY4 HSM EN EN'
        go_wp2_with (go_at_call 22; refine (AW.out _ T3.out.below).mono ?_; rintro r w6 ⟨rfl, hb6⟩; have T4 := Lib.hid (T3.out.next hb6 (by rfl) (by rfl) (by rfl) (by rfl)); clear hb6)
        go_ret
        exact ⟨rfl, T4.out.below⟩
    · have f1 : (er != 0) = true := by rw [bne_iff_ne]; exact j1
      clear j1 HY3 HY4 HSM EN EN'
      go_wp2_with (go_at_call 22; refine (AW.out _ T3.out.below).mono ?_; rintro r w6 ⟨rfl, hb6⟩; have T4 := Lib.hid (T3.out.next hb6 (by rfl) (by rfl) (by rfl) (by rfl)); clear hb6)
      go_ret
      exact ⟨rfl, T4.out.below⟩
end Go.Proofs.YtjfgnojmdbfnmaaDoor
