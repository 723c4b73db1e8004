/-
  The walk of the law SuperValid.
-/
import Derived.Test.YtjfgnojmdbfnmaaDoorSbLawWords
import Derived.Test.YtjfgnojmdbfnmaaDoorSbRefValid
namespace Go.Proofs.YtjfgnojmdbfnmaaDoor
open Go.RowKit
set_option maxHeartbeats 8000000 in
theorem supervalid_any (a0 a1 a2 a3 a4 t0 t1 t2 t3 h0 h1 h2 h3 b0 b1 b2 b3 b4 u0 u1 u2 u3 g0 g1 g2 g3 : Int) (A A' : Option Addr) (n c n' c' : Nat) (l l' : List Sb.L) (w : World) (hs : SlIs A n c) (hs' : SlIs A' n' c') (hl : Hid (l.length = n ∧ Ls w w.heap.size A l)) (hl' : Hid (l'.length = n' ∧ Ls w w.heap.size A' l')) (ht : Hid (TabW w)) (hz : 0 < w.heap.size) :
    Calls Tryd.prog 8 #[.agg #[.int .i64 a0, .int .i64 a1, .int .i64 a2, .int .i64 a3, .int .i64 a4, .int .i64 t0, .int .i64 t1, .int .i64 t2, .int .i64 t3, .int .i64 h0, .int .i64 h1, .int .i64 h2, .int .i64 h3, .slice A n c], .agg #[.int .i64 b0, .int .i64 b1, .int .i64 b2, .int .i64 b3, .int .i64 b4, .int .i64 u0, .int .i64 u1, .int .i64 u2, .int .i64 u3, .int .i64 g0, .int .i64 g1, .int .i64 g2, .int .i64 g3, .slice A' n' c']] w fun r w' => r = .returned (.bool true) ∧ Below w.heap.size w w' := by
  obtain ⟨m, hm⟩ := min_is n 4
  obtain ⟨m', hm'⟩ := min_is n' 4
  have hm4 : m ≤ 4 := by unfold MinIs at hm; omega
  have hm4' : m' ≤ 4 := by unfold MinIs at hm'; omega
  have C1 := Lib.hid (fun W => sbshort_any a0 a1 a2 a3 a4 t0 t1 t2 t3 h0 h1 h2 h3 A n c m hs hm W)
  have C2 := Lib.hid (fun W => sbshort_any b0 b1 b2 b3 b4 u0 u1 u2 u3 g0 g1 g2 g3 A' n' c' m' hs' hm' W)
  obtain ⟨k1, k2⟩ := ls_take hl.out.1 hm hl.out.2
  obtain ⟨k1', k2'⟩ := ls_take hl'.out.1 hm' hl'.out.2
  have HL : Hid (∀ W, Below w.heap.size w W → Ls W w.heap.size A (l.take m)) := fun W hW => k2.below hW (Nat.le_refl _)
  have HL' : Hid (∀ W, Below w.heap.size w W → Ls W w.heap.size A' (l'.take m')) := fun W hW => k2'.below hW (Nat.le_refl _)
  have HK : Hid ((l.take m).length = m) := k1
  have HK' : Hid ((l'.take m').length = m') := k1'
  have HSL := Lib.hid (min_sl hs hm)
  have HSL' := Lib.hid (min_sl hs' hm')
  have HTB : Hid (∀ W, Below w.heap.size w W → TabW W ∧ 0 < W.heap.size) := fun W hW => ⟨ht.out.below hW hz, Nat.lt_of_lt_of_le hz hW.size⟩
  clear k1 k2 k1' k2' hl hl' hm hm' hs hs' ht hz
  generalize l.take m = l at *
  generalize l'.take m' = l' at *
  have AW : Hid (∀ W, Below w.heap.size w W → Calls Tryd.prog 22 #[] W fun r w' => r = .returned (.bool true) ∧ Below W.heap.size W w') := fun W hW => sbawake_any W (HTB.out W hW).1 (HTB.out W hW).2
  have F1 := Lib.hid (fun W => sbform_any t0 t1 t2 t3 W)
  have F2 := Lib.hid (fun W => refsbform_any t0 t1 t2 t3 W)
  have Q1 : Hid (∀ W, Below w.heap.size w W → Calls Tryd.prog 25 #[.agg #[.int .i64 a0, .int .i64 a1, .int .i64 a2, .int .i64 a3, .int .i64 a4, .int .i64 t0, .int .i64 t1, .int .i64 t2, .int .i64 t3, .int .i64 h0, .int .i64 h1, .int .i64 h2, .int .i64 h3, .slice A m c]] W fun r w' => r = .returned (.bool (decide (Sb.valid ⟨a0, a1, a2, a3, a4, ⟨t0, t1, t2, t3⟩, ⟨h0, h1, h2, h3⟩, l⟩))) ∧ Below W.heap.size W w') := fun W hW => sbvalid_any a0 a1 a2 a3 a4 t0 t1 t2 t3 h0 h1 h2 h3 A w.heap.size m c l W hW.size HSL.out HK.out (HL.out W hW)
  have Q2 : Hid (∀ W, Below w.heap.size w W → Calls Tryd.prog 26 #[.agg #[.int .i64 a0, .int .i64 a1, .int .i64 a2, .int .i64 a3, .int .i64 a4, .int .i64 t0, .int .i64 t1, .int .i64 t2, .int .i64 t3, .int .i64 h0, .int .i64 h1, .int .i64 h2, .int .i64 h3, .slice A m c]] W fun r w' => r = .returned (.bool (decide (Sb.valid ⟨a0, a1, a2, a3, a4, ⟨t0, t1, t2, t3⟩, ⟨h0, h1, h2, h3⟩, l⟩))) ∧ Below W.heap.size W w') := fun W hW => refsbvalid_any a0 a1 a2 a3 a4 t0 t1 t2 t3 h0 h1 h2 h3 A w.heap.size m c l W hW.size HK.out (HL.out W hW)
  have E1 : Hid (∀ W, Below w.heap.size w W → Calls Tryd.prog 27 #[.agg #[.int .i64 a0, .int .i64 a1, .int .i64 a2, .int .i64 a3, .int .i64 a4, .int .i64 t0, .int .i64 t1, .int .i64 t2, .int .i64 t3, .int .i64 h0, .int .i64 h1, .int .i64 h2, .int .i64 h3, .slice A m c], .agg #[.int .i64 b0, .int .i64 b1, .int .i64 b2, .int .i64 b3, .int .i64 b4, .int .i64 u0, .int .i64 u1, .int .i64 u2, .int .i64 u3, .int .i64 g0, .int .i64 g1, .int .i64 g2, .int .i64 g3, .slice A' m' c']] W fun r w' => r = .returned (.bool (Sb.same ⟨a0, a1, a2, a3, a4, ⟨t0, t1, t2, t3⟩, ⟨h0, h1, h2, h3⟩, l⟩ ⟨b0, b1, b2, b3, b4, ⟨u0, u1, u2, u3⟩, ⟨g0, g1, g2, g3⟩, l'⟩)) ∧ Below W.heap.size W w') := fun W hW => sbequal_any a0 a1 a2 a3 a4 t0 t1 t2 t3 h0 h1 h2 h3 b0 b1 b2 b3 b4 u0 u1 u2 u3 g0 g1 g2 g3 A A' w.heap.size m m' c c' l l' W hW.size HK.out HK'.out (by omega) (by omega) (HL.out W hW) (HL'.out W hW)
  have E2 : Hid (∀ W, Below w.heap.size w W → Calls Tryd.prog 28 #[.agg #[.int .i64 a0, .int .i64 a1, .int .i64 a2, .int .i64 a3, .int .i64 a4, .int .i64 t0, .int .i64 t1, .int .i64 t2, .int .i64 t3, .int .i64 h0, .int .i64 h1, .int .i64 h2, .int .i64 h3, .slice A m c], .agg #[.int .i64 b0, .int .i64 b1, .int .i64 b2, .int .i64 b3, .int .i64 b4, .int .i64 u0, .int .i64 u1, .int .i64 u2, .int .i64 u3, .int .i64 g0, .int .i64 g1, .int .i64 g2, .int .i64 g3, .slice A' m' c']] W fun r w' => r = .returned (.bool (Sb.same ⟨a0, a1, a2, a3, a4, ⟨t0, t1, t2, t3⟩, ⟨h0, h1, h2, h3⟩, l⟩ ⟨b0, b1, b2, b3, b4, ⟨u0, u1, u2, u3⟩, ⟨g0, g1, g2, g3⟩, l'⟩)) ∧ Below W.heap.size W w') := fun W hW => refsbeq_any a0 a1 a2 a3 a4 t0 t1 t2 t3 h0 h1 h2 h3 b0 b1 b2 b3 b4 u0 u1 u2 u3 g0 g1 g2 g3 A A' w.heap.size m m' c c' l l' W hW.size HK.out HK'.out (by omega) (by omega) (HL.out W hW) (HL'.out W hW)
  have E3 : Hid (∀ W, Below w.heap.size w W → Calls Tryd.prog 27 #[.agg #[.int .i64 a0, .int .i64 a1, .int .i64 a2, .int .i64 a3, .int .i64 a4, .int .i64 t0, .int .i64 t1, .int .i64 t2, .int .i64 t3, .int .i64 h0, .int .i64 h1, .int .i64 h2, .int .i64 h3, .slice A m c], .agg #[.int .i64 a0, .int .i64 a1, .int .i64 a2, .int .i64 a3, .int .i64 a4, .int .i64 t0, .int .i64 t1, .int .i64 t2, .int .i64 t3, .int .i64 h0, .int .i64 h1, .int .i64 h2, .int .i64 h3, .slice A m c]] W fun r w' => r = .returned (.bool true) ∧ Below W.heap.size W w') := fun W hW => by
    have h := sbequal_any a0 a1 a2 a3 a4 t0 t1 t2 t3 h0 h1 h2 h3 a0 a1 a2 a3 a4 t0 t1 t2 t3 h0 h1 h2 h3 A A w.heap.size m m c c l l W hW.size HK.out HK.out (by omega) (by omega) (HL.out W hW) (HL.out W hW)
    rwa [Sb.same_self] at h
  generalize decide (Sb.form ⟨t0, t1, t2, t3⟩) = kf at *
  generalize decide (Sb.valid ⟨a0, a1, a2, a3, a4, ⟨t0, t1, t2, t3⟩, ⟨h0, h1, h2, h3⟩, l⟩) = kv at *
  generalize Sb.same ⟨a0, a1, a2, a3, a4, ⟨t0, t1, t2, t3⟩, ⟨h0, h1, h2, h3⟩, l⟩ ⟨b0, b1, b2, b3, b4, ⟨u0, u1, u2, u3⟩, ⟨g0, g1, g2, g3⟩, l'⟩ = ke at *
  have HD0 := Lib.hid (sd2_new w #[.int .i64 a0, .int .i64 a1, .int .i64 a2, .int .i64 a3, .int .i64 a4, .int .i64 t0, .int .i64 t1, .int .i64 t2, .int .i64 t3, .int .i64 h0, .int .i64 h1, .int .i64 h2, .int .i64 h3, .slice A n c] #[.int .i64 b0, .int .i64 b1, .int .i64 b2, .int .i64 b3, .int .i64 b4, .int .i64 u0, .int .i64 u1, .int .i64 u2, .int .i64 u3, .int .i64 g0, .int .i64 g1, .int .i64 g2, .int .i64 g3, .slice A' n' c'] 44 44)
  clear HL HL' HK HK' HSL HSL' HTB hm4 hm4'
  go_enter Tryd.func8, Tryd.ntmps8
  go_upto_region 1 with fail
  generalize (w.alloc (.cells #[.int .i64 a0, .int .i64 a1, .int .i64 a2, .int .i64 a3, .int .i64 a4, .int .i64 t0, .int .i64 t1, .int .i64 t2, .int .i64 t3, .int .i64 h0, .int .i64 h1, .int .i64 h2, .int .i64 h3, .slice A n c] 44)).alloc (.cells #[.int .i64 b0, .int .i64 b1, .int .i64 b2, .int .i64 b3, .int .i64 b4, .int .i64 u0, .int .i64 u1, .int .i64 u2, .int .i64 u3, .int .i64 g0, .int .i64 g1, .int .i64 g2, .int .i64 g3, .slice A' n' c'] 44) = w0 at *
  obtain ⟨x0, x1, x2, x3, x4, x5, x6, x7, x8, x9, x10, x11, x12, x13⟩ := cells14 HD0.out.1
  obtain ⟨y0, y1, y2, y3, y4, y5, y6, y7, y8, y9, y10, y11, y12, y13⟩ := cells14 HD0.out.2.1
  go_cut [5] (fun _ wx => Hid (Sd2 w (.cells #[.int .i64 a0, .int .i64 a1, .int .i64 a2, .int .i64 a3, .int .i64 a4, .int .i64 t0, .int .i64 t1, .int .i64 t2, .int .i64 t3, .int .i64 h0, .int .i64 h1, .int .i64 h2, .int .i64 h3, .slice A m c] 44 (0, 0)) (.cells #[.int .i64 b0, .int .i64 b1, .int .i64 b2, .int .i64 b3, .int .i64 b4, .int .i64 u0, .int .i64 u1, .int .i64 u2, .int .i64 u3, .int .i64 g0, .int .i64 g1, .int .i64 g2, .int .i64 g3, .slice A' m' c'] 44 (0, 0)) wx))
  case first =>
    go_region_with (go_at_call 21; first
      | ((with_reducible refine (C1.out _).mono ?_); rintro r w1 ⟨rfl, hb1⟩; have HD1 := Lib.hid (HD0.out.next hb1 (by rfl) (by rfl) (by rfl) (by rfl)); clear x0 x1 x2 x3 x4 x5 x6 x7 x8 x9 x10 x11 x12 x13 y0 y1 y2 y3 y4 y5 y6 y7 y8 y9 y10 y11 y12 y13 hb1; obtain ⟨x0, x1, x2, x3, x4, x5, x6, x7, x8, x9, x10, x11, x12, x13⟩ := cells14 HD1.out.1; obtain ⟨y0, y1, y2, y3, y4, y5, y6, y7, y8, y9, y10, y11, y12, y13⟩ := cells14 HD1.out.2.1)
      | ((with_reducible refine (C2.out _).mono ?_); rintro r w2 ⟨rfl, hb2⟩; have HD2 := Lib.hid (HD1.out.next hb2 (by rfl) (by rfl) (by rfl) (by rfl)); clear x0 x1 x2 x3 x4 x5 x6 x7 x8 x9 x10 x11 x12 x13 y0 y1 y2 y3 y4 y5 y6 y7 y8 y9 y10 y11 y12 y13 hb2; obtain ⟨x0, x1, x2, x3, x4, x5, x6, x7, x8, x9, x10, x11, x12, x13⟩ := cells14 HD2.out.1; obtain ⟨y0, y1, y2, y3, y4, y5, y6, y7, y8, y9, y10, y11, y12, y13⟩ := cells14 HD2.out.2.1; obtain ⟨fz0, fz1, fz2, fz3, fz4, fz5, fz6, fz7, fz8, fz9, fz10, fz11, fz12, fz13⟩ := frozen14 HD2.out.1; obtain ⟨gz0, gz1, gz2, gz3, gz4, gz5, gz6, gz7, gz8, gz9, gz10, gz11, gz12, gz13⟩ := frozen14 HD2.out.2.1))
    all_goals
      (try go_wp2_with fail)
      go_meet
      exact two_stored HD2.out
  case rest =>
    have HC := Lib.hid hcut.out
    clear hcut C1 C2 x0 x1 x2 x3 x4 x5 x6 x7 x8 x9 x10 x11 x12 x13 y0 y1 y2 y3 y4 y5 y6 y7 y8 y9 y10 y11 y12 y13 HD0
    generalize wc = w2 at *
    have T1 : Hid (TwoIn w _ _ w.heap.size (w.heap.size + 1) w2.drew) := ⟨⟨HC.out.1, HC.out.2.2.drew⟩, ⟨HC.out.2.1, HC.out.2.2.drew⟩⟩
    obtain ⟨x0, x1, x2, x3, x4, x5, x6, x7, x8, x9, x10, x11, x12, x13⟩ := cells14 HC.out.1
    obtain ⟨y0, y1, y2, y3, y4, y5, y6, y7, y8, y9, y10, y11, y12, y13⟩ := cells14 HC.out.2.1
    clear HC
    go_upto_region 2 with fail
    go_region_held3 (fun W => (W.cell? ⟨w.heap.size, 0, none⟩ = some (.int .i64 a0) ∧ W.cell? ⟨w.heap.size, 1, none⟩ = some (.int .i64 a1) ∧ W.cell? ⟨w.heap.size, 2, none⟩ = some (.int .i64 a2) ∧ W.cell? ⟨w.heap.size, 3, none⟩ = some (.int .i64 a3) ∧ W.cell? ⟨w.heap.size, 4, none⟩ = some (.int .i64 a4) ∧ W.cell? ⟨w.heap.size, 5, none⟩ = some (.int .i64 t0) ∧ W.cell? ⟨w.heap.size, 6, none⟩ = some (.int .i64 t1) ∧ W.cell? ⟨w.heap.size, 7, none⟩ = some (.int .i64 t2) ∧ W.cell? ⟨w.heap.size, 8, none⟩ = some (.int .i64 t3) ∧ W.cell? ⟨w.heap.size, 9, none⟩ = some (.int .i64 h0) ∧ W.cell? ⟨w.heap.size, 10, none⟩ = some (.int .i64 h1) ∧ W.cell? ⟨w.heap.size, 11, none⟩ = some (.int .i64 h2) ∧ W.cell? ⟨w.heap.size, 12, none⟩ = some (.int .i64 h3) ∧ W.cell? ⟨w.heap.size, 13, none⟩ = some (.slice A m c)) ∧ (W.cell? ⟨w.heap.size + 1, 0, none⟩ = some (.int .i64 b0) ∧ W.cell? ⟨w.heap.size + 1, 1, none⟩ = some (.int .i64 b1) ∧ W.cell? ⟨w.heap.size + 1, 2, none⟩ = some (.int .i64 b2) ∧ W.cell? ⟨w.heap.size + 1, 3, none⟩ = some (.int .i64 b3) ∧ W.cell? ⟨w.heap.size + 1, 4, none⟩ = some (.int .i64 b4) ∧ W.cell? ⟨w.heap.size + 1, 5, none⟩ = some (.int .i64 u0) ∧ W.cell? ⟨w.heap.size + 1, 6, none⟩ = some (.int .i64 u1) ∧ W.cell? ⟨w.heap.size + 1, 7, none⟩ = some (.int .i64 u2) ∧ W.cell? ⟨w.heap.size + 1, 8, none⟩ = some (.int .i64 u3) ∧ W.cell? ⟨w.heap.size + 1, 9, none⟩ = some (.int .i64 g0) ∧ W.cell? ⟨w.heap.size + 1, 10, none⟩ = some (.int .i64 g1) ∧ W.cell? ⟨w.heap.size + 1, 11, none⟩ = some (.int .i64 g2) ∧ W.cell? ⟨w.heap.size + 1, 12, none⟩ = some (.int .i64 g3) ∧ W.cell? ⟨w.heap.size + 1, 13, none⟩ = some (.slice A' m' c')))
      (first
        | (revert T9; intro T9; have hh := T9.out; with_reducible exact ⟨cells14 hh.one, cells14 hh.two⟩)
        | (revert T8; intro T8; have hh := T8.out; with_reducible exact ⟨cells14 hh.one, cells14 hh.two⟩)
        | (revert T7; intro T7; have hh := T7.out; with_reducible exact ⟨cells14 hh.one, cells14 hh.two⟩)
        | (revert T6; intro T6; have hh := T6.out; with_reducible exact ⟨cells14 hh.one, cells14 hh.two⟩)
        | (revert T5; intro T5; have hh := T5.out; with_reducible exact ⟨cells14 hh.one, cells14 hh.two⟩)
        | (revert T4; intro T4; have hh := T4.out; with_reducible exact ⟨cells14 hh.one, cells14 hh.two⟩)
        | (revert T3; intro T3; have hh := T3.out; with_reducible exact ⟨cells14 hh.one, cells14 hh.two⟩)
        | (revert T2; intro T2; have hh := T2.out; with_reducible exact ⟨cells14 hh.one, cells14 hh.two⟩)
        | (revert T1; intro T1; have hh := T1.out; with_reducible exact ⟨cells14 hh.one, cells14 hh.two⟩)
        | go_keep)
      (first
        | (go_at_call 27; revert T8; intro T8; have hh := T8.out; refine (E3.out _ hh.below).mono ?_; rintro r w10' ⟨rfl, hb⟩; have T9 := Lib.hid (hh.next hb (by rfl) (by rfl) (by rfl) (by rfl)); clear hb hh)
        | (go_at_call 28; revert T7; intro T7; have hh := T7.out; refine (E2.out _ hh.below).mono ?_; rintro r w9' ⟨rfl, hb⟩; have T8 := Lib.hid (hh.next hb (by rfl) (by rfl) (by rfl) (by rfl)); clear hb hh)
        | (go_at_call 27; revert T6; intro T6; have hh := T6.out; refine (E1.out _ hh.below).mono ?_; rintro r w8' ⟨rfl, hb⟩; have T7 := Lib.hid (hh.next hb (by rfl) (by rfl) (by rfl) (by rfl)); clear hb hh)
        | (go_at_call 26; revert T5; intro T5; have hh := T5.out; refine (Q2.out _ hh.below).mono ?_; rintro r w7' ⟨rfl, hb⟩; have T6 := Lib.hid (hh.next hb (by rfl) (by rfl) (by rfl) (by rfl)); clear hb hh)
        | (go_at_call 25; revert T4; intro T4; have hh := T4.out; refine (Q1.out _ hh.below).mono ?_; rintro r w6' ⟨rfl, hb⟩; have T5 := Lib.hid (hh.next hb (by rfl) (by rfl) (by rfl) (by rfl)); clear hb hh)
        | (go_at_call 24; revert T3; intro T3; have hh := T3.out; refine (F2.out _).mono ?_; rintro r w5' ⟨rfl, hb⟩; have T4 := Lib.hid (hh.next hb (by rfl) (by rfl) (by rfl) (by rfl)); clear hb hh)
        | (go_at_call 23; revert T2; intro T2; have hh := T2.out; refine (F1.out _).mono ?_; rintro r w4' ⟨rfl, hb⟩; have T3 := Lib.hid (hh.next hb (by rfl) (by rfl) (by rfl) (by rfl)); clear hb hh)
        | (go_at_call 22; revert T1; intro T1; have hh := T1.out; refine (AW.out _ hh.below).mono ?_; rintro r w3' ⟨rfl, hb⟩; have T2 := Lib.hid (hh.next hb (by rfl) (by rfl) (by rfl) (by rfl)); clear hb hh))
    all_goals
      (try go_wp2_with fail)
      go_ret
      exact ⟨ret_bool (by simp), T9.out.below⟩
end Go.Proofs.YtjfgnojmdbfnmaaDoor
