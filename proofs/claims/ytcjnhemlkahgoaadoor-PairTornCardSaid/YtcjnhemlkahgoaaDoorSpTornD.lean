/-
  The walk of the law PairTorn.
-/
import Derived.Test.YtcjnhemlkahgoaaDoorSpTwo
import Derived.Test.YtcjnhemlkahgoaaDoorSpRef
import Derived.Test.YtcjnhemlkahgoaaDoorSpFactsTwo
set_option maxRecDepth 100000
namespace Go.Proofs.YtcjnhemlkahgoaaDoor
open Go.RowKit
set_option maxHeartbeats 16000000 in
theorem pairtorn_n1 (a0 a1 a2 a3 a4 t0 t1 t2 t3 h0 h1 h2 h3 b0 b1 b2 b3 b4 u0 u1 u2 u3 g0 g1 g2 g3 x : Int) (A A' : Option Addr) (n c n' c' : Nat) (l l' : List Sb.L) (w : World) (hs : SlIs A n c) (hs' : SlIs A' n' c') (hl : Hid (l.length = n ∧ Ls w w.heap.size A l)) (hl' : Hid (l'.length = n' ∧ Ls w w.heap.size A' l')) (ht : Hid (TabW w)) (hz : 0 < w.heap.size) (hsel : Hid ((a0 + 1) % 2 = 1 ∧ ∀ k m' : Nat, k = keptBy [] [(0, x)] 0 → MinIs n' 4 m' → ¬ Sb.good ((a0 + 1) % 2) (tornTwo ⟨a0 + 1, b1, b2, b3, b4, ⟨u0, u1, u2, u3⟩, ⟨g0, g1, g2, g3⟩, (l'.take m')⟩ k) ⟨a0 + 1, b1, b2, b3, b4, ⟨u0, u1, u2, u3⟩, ⟨g0, g1, g2, g3⟩, (l'.take m')⟩)) :
    Calls Tryd.prog 7 #[.agg #[.int .i64 a0, .int .i64 a1, .int .i64 a2, .int .i64 a3, .int .i64 a4, .int .i64 t0, .int .i64 t1, .int .i64 t2, .int .i64 t3, .int .i64 h0, .int .i64 h1, .int .i64 h2, .int .i64 h3, .slice A n c], .agg #[.int .i64 b0, .int .i64 b1, .int .i64 b2, .int .i64 b3, .int .i64 b4, .int .i64 u0, .int .i64 u1, .int .i64 u2, .int .i64 u3, .int .i64 g0, .int .i64 g1, .int .i64 g2, .int .i64 g3, .slice A' n' c'], .int .i64 x] w fun r w' => r = .returned (.bool true) ∧ Below w.heap.size w w' := by
  obtain ⟨m, hm⟩ := min_is n 4
  obtain ⟨m', hm'⟩ := min_is n' 4
  have HSEL := Lib.hid (fun k hk => hsel.out.2 k m' hk hm')
  have HPAR := Lib.hid hsel.out.1
  clear hsel
  have hm4 : m ≤ 4 := by unfold MinIs at hm; omega
  have hm4' : m' ≤ 4 := by unfold MinIs at hm'; omega
  have C1 := Lib.hid (fun W => sbshort_any a0 a1 a2 a3 a4 t0 t1 t2 t3 h0 h1 h2 h3 A n c m hs hm W)
  have C2 := Lib.hid (fun W => sbshort_any b0 b1 b2 b3 b4 u0 u1 u2 u3 g0 g1 g2 g3 A' n' c' m' hs' hm' W)
  obtain ⟨k1, k2⟩ := ls_take hl.out.1 hm hl.out.2
  obtain ⟨k1', k2'⟩ := ls_take hl'.out.1 hm' hl'.out.2
  have HL : Hid (∀ W, Below w.heap.size w W → Ls W w.heap.size A (l.take m)) := fun W hW => k2.below hW (Nat.le_refl _)
  have HL' : Hid (∀ W, Below w.heap.size w W → Ls W w.heap.size A' (l'.take m')) := fun W hW => k2'.below hW (Nat.le_refl _)
  have HK : Hid ((l.take m).length = m) := k1
  have HK' : Hid ((l'.take m').length = m') := k1'
  have HSL := Lib.hid (min_sl hs hm)
  have HSL' := Lib.hid (min_sl hs' hm')
  have HTB : Hid (∀ W, Below w.heap.size w W → TabW W ∧ 0 < W.heap.size) := fun W hW => dev_tab ht.out hz hW
  clear k1 k2 k1' k2' hl hl' hm hm' hs hs' ht hz
  generalize l.take m = l at *
  generalize l'.take m' = l' at *
  have AW : Hid (∀ W, Below w.heap.size w W → Calls Tryd.prog 15 #[] W fun r w' => r = .returned (.bool true) ∧ Below W.heap.size W w') := fun W hW => spawake_any W (HTB.out W hW).1 (HTB.out W hW).2
  have QV : Hid (∀ W, Below w.heap.size w W → Calls Tryd.prog 19 #[.agg #[.int .i64 a0, .int .i64 a1, .int .i64 a2, .int .i64 a3, .int .i64 a4, .int .i64 t0, .int .i64 t1, .int .i64 t2, .int .i64 t3, .int .i64 h0, .int .i64 h1, .int .i64 h2, .int .i64 h3, .slice A m c]] W fun r w' => r = .returned (.bool (decide (Sb.valid ⟨a0, a1, a2, a3, a4, ⟨t0, t1, t2, t3⟩, ⟨h0, h1, h2, h3⟩, l⟩))) ∧ Below W.heap.size W w') := fun W hW => refsbvalid_any a0 a1 a2 a3 a4 t0 t1 t2 t3 h0 h1 h2 h3 A w.heap.size m c l W hW.size HK.out (HL.out W hW)
  have QT : Hid (∀ W, Below w.heap.size w W → Calls Tryd.prog 19 #[.agg #[.int .i64 (a0 + 1), .int .i64 b1, .int .i64 b2, .int .i64 b3, .int .i64 b4, .int .i64 u0, .int .i64 u1, .int .i64 u2, .int .i64 u3, .int .i64 g0, .int .i64 g1, .int .i64 g2, .int .i64 g3, .slice A' m' c']] W fun r w' => r = .returned (.bool (decide (Sb.valid ⟨a0 + 1, b1, b2, b3, b4, ⟨u0, u1, u2, u3⟩, ⟨g0, g1, g2, g3⟩, l'⟩))) ∧ Below W.heap.size W w') := fun W hW => refsbvalid_any (a0 + 1) b1 b2 b3 b4 u0 u1 u2 u3 g0 g1 g2 g3 A' w.heap.size m' c' l' W hW.size HK'.out (HL'.out W hW)
  have P1 : Hid (∀ W g cb mb fs, Below w.heap.size w W → Dev W g cb mb 3 fs → fs.wr < 4611686018427387904 → Calls Tryd.prog 18 #[.pointer (some ⟨g, 0, none⟩), .agg #[.int .i64 a0, .int .i64 a1, .int .i64 a2, .int .i64 a3, .int .i64 a4, .int .i64 t0, .int .i64 t1, .int .i64 t2, .int .i64 t3, .int .i64 h0, .int .i64 h1, .int .i64 h2, .int .i64 h3, .slice A m c]] W (WriteDid W g cb mb 3 (fs.pub 3 ⟨a0, a1, a2, a3, a4, ⟨t0, t1, t2, t3⟩, ⟨h0, h1, h2, h3⟩, l⟩) (fs.pubErr 3 ⟨a0, a1, a2, a3, a4, ⟨t0, t1, t2, t3⟩, ⟨h0, h1, h2, h3⟩, l⟩))) := fun W g cb mb fs hW hd hwr => publish_any a0 a1 a2 a3 a4 t0 t1 t2 t3 h0 h1 h2 h3 A m c l g cb mb 3 fs W HSL.out HK.out ((HL.out W hW).more hW.size) (HTB.out W hW).1 (HTB.out W hW).2 hd hwr
  have P2 : Hid (∀ W g cb mb fs, Below w.heap.size w W → Dev W g cb mb 3 fs → fs.wr < 4611686018427387904 → Calls Tryd.prog 18 #[.pointer (some ⟨g, 0, none⟩), .agg #[.int .i64 (a0 + 1), .int .i64 b1, .int .i64 b2, .int .i64 b3, .int .i64 b4, .int .i64 u0, .int .i64 u1, .int .i64 u2, .int .i64 u3, .int .i64 g0, .int .i64 g1, .int .i64 g2, .int .i64 g3, .slice A' m' c']] W (WriteDid W g cb mb 3 (fs.pub 3 ⟨a0 + 1, b1, b2, b3, b4, ⟨u0, u1, u2, u3⟩, ⟨g0, g1, g2, g3⟩, l'⟩) (fs.pubErr 3 ⟨a0 + 1, b1, b2, b3, b4, ⟨u0, u1, u2, u3⟩, ⟨g0, g1, g2, g3⟩, l'⟩))) := fun W g cb mb fs hW hd hwr => publish_any (a0 + 1) b1 b2 b3 b4 u0 u1 u2 u3 g0 g1 g2 g3 A' m' c' l' g cb mb 3 fs W HSL'.out HK'.out ((HL'.out W hW).more hW.size) (HTB.out W hW).1 (HTB.out W hW).2 hd hwr
  have HLO : Hid (∀ W g cb mb fs, Below w.heap.size w W → Dev W g cb mb 3 fs → fs.dead = false → Calls Tryd.prog 14 #[.pointer (some ⟨g, 0, none⟩)] W (GotS W ((Sp.newest (sec fs.cur 0) (sec fs.cur 1)).getD Sb.S0) (Sp.newest (sec fs.cur 0) (sec fs.cur 1)).isSome)) := fun W g cb mb fs hW hd h0 => (spload_any g cb mb 3 fs W (by decide) h0 (HTB.out W hW).1 (HTB.out W hW).2 hd).mono fun r w' h => gots_load h
  have E1 : Hid (∀ (u : Sb.S) W B n9 c9, u.f.length ≤ 4 → Below w.heap.size w W → SbAt W W.heap.size u B n9 c9 → Calls Tryd.prog 10 #[.agg #[.int .i64 u.gen, .int .i64 u.phase, .int .i64 u.mig, .int .i64 u.tail, .int .i64 u.now, .int .i64 u.t.id, .int .i64 u.t.ver, .int .i64 u.t.rs, .int .i64 u.t.reg, .int .i64 u.h.id, .int .i64 u.h.ver, .int .i64 u.h.rs, .int .i64 u.h.reg, .slice B n9 c9], .agg #[.int .i64 a0, .int .i64 a1, .int .i64 a2, .int .i64 a3, .int .i64 a4, .int .i64 t0, .int .i64 t1, .int .i64 t2, .int .i64 t3, .int .i64 h0, .int .i64 h1, .int .i64 h2, .int .i64 h3, .slice A m c]] W fun r w' => r = .returned (.bool (Sb.same u ⟨a0, a1, a2, a3, a4, ⟨t0, t1, t2, t3⟩, ⟨h0, h1, h2, h3⟩, l⟩)) ∧ Below W.heap.size W w') := fun u W B n9 c9 hu hW h9 => refeq_sb u ⟨a0, a1, a2, a3, a4, ⟨t0, t1, t2, t3⟩, ⟨h0, h1, h2, h3⟩, l⟩ hu (by rw [HK.out]; exact hm4) B A n9 c9 m c W h9 ⟨HSL.out, HK.out, (HL.out W hW).more hW.size⟩
  have E2 : Hid (∀ (u : Sb.S) W B n9 c9, u.f.length ≤ 4 → Below w.heap.size w W → SbAt W W.heap.size u B n9 c9 → Calls Tryd.prog 10 #[.agg #[.int .i64 u.gen, .int .i64 u.phase, .int .i64 u.mig, .int .i64 u.tail, .int .i64 u.now, .int .i64 u.t.id, .int .i64 u.t.ver, .int .i64 u.t.rs, .int .i64 u.t.reg, .int .i64 u.h.id, .int .i64 u.h.ver, .int .i64 u.h.rs, .int .i64 u.h.reg, .slice B n9 c9], .agg #[.int .i64 (a0 + 1), .int .i64 b1, .int .i64 b2, .int .i64 b3, .int .i64 b4, .int .i64 u0, .int .i64 u1, .int .i64 u2, .int .i64 u3, .int .i64 g0, .int .i64 g1, .int .i64 g2, .int .i64 g3, .slice A' m' c']] W fun r w' => r = .returned (.bool (Sb.same u ⟨a0 + 1, b1, b2, b3, b4, ⟨u0, u1, u2, u3⟩, ⟨g0, g1, g2, g3⟩, l'⟩)) ∧ Below W.heap.size W w') := fun u W B n9 c9 hu hW h9 => refeq_sb u ⟨a0 + 1, b1, b2, b3, b4, ⟨u0, u1, u2, u3⟩, ⟨g0, g1, g2, g3⟩, l'⟩ hu (by rw [HK'.out]; exact hm4') B A' n9 c9 m' c' W h9 ⟨HSL'.out, HK'.out, (HL'.out W hW).more hW.size⟩
  have HK4 : Hid (l.length ≤ 4 ∧ l'.length ≤ 4) := ⟨by rw [HK.out]; exact hm4, by rw [HK'.out]; exact hm4'⟩
  have HD0 := Lib.hid (sd2_new w #[.int .i64 a0, .int .i64 a1, .int .i64 a2, .int .i64 a3, .int .i64 a4, .int .i64 t0, .int .i64 t1, .int .i64 t2, .int .i64 t3, .int .i64 h0, .int .i64 h1, .int .i64 h2, .int .i64 h3, .slice A n c] #[.int .i64 b0, .int .i64 b1, .int .i64 b2, .int .i64 b3, .int .i64 b4, .int .i64 u0, .int .i64 u1, .int .i64 u2, .int .i64 u3, .int .i64 g0, .int .i64 g1, .int .i64 g2, .int .i64 g3, .slice A' n' c'] 27 27)
  clear HL HL' HK HK' HSL HSL' HTB hm4 hm4'
  go_enter Tryd.func7, Tryd.ntmps7
  go_upto_region 1 with fail
  generalize (w.alloc (.cells #[.int .i64 a0, .int .i64 a1, .int .i64 a2, .int .i64 a3, .int .i64 a4, .int .i64 t0, .int .i64 t1, .int .i64 t2, .int .i64 t3, .int .i64 h0, .int .i64 h1, .int .i64 h2, .int .i64 h3, .slice A n c] 27)).alloc (.cells #[.int .i64 b0, .int .i64 b1, .int .i64 b2, .int .i64 b3, .int .i64 b4, .int .i64 u0, .int .i64 u1, .int .i64 u2, .int .i64 u3, .int .i64 g0, .int .i64 g1, .int .i64 g2, .int .i64 g3, .slice A' n' c'] 27) = w0 at *
  go_cut [6] (fun _ wx => Hid (Sd2 w (.cells #[.int .i64 a0, .int .i64 a1, .int .i64 a2, .int .i64 a3, .int .i64 a4, .int .i64 t0, .int .i64 t1, .int .i64 t2, .int .i64 t3, .int .i64 h0, .int .i64 h1, .int .i64 h2, .int .i64 h3, .slice A m c] 27 (0, 0)) (.cells #[.int .i64 b0, .int .i64 b1, .int .i64 b2, .int .i64 b3, .int .i64 b4, .int .i64 u0, .int .i64 u1, .int .i64 u2, .int .i64 u3, .int .i64 g0, .int .i64 g1, .int .i64 g2, .int .i64 g3, .slice A' m' c'] 27 (0, 0)) wx))
  case first =>
    have HDd : Hid (Sd2 w (.cells #[.int .i64 a0, .int .i64 a1, .int .i64 a2, .int .i64 a3, .int .i64 a4, .int .i64 t0, .int .i64 t1, .int .i64 t2, .int .i64 t3, .int .i64 h0, .int .i64 h1, .int .i64 h2, .int .i64 h3, .slice A n c] 27 (0, 0)) (.cells #[.int .i64 b0, .int .i64 b1, .int .i64 b2, .int .i64 b3, .int .i64 b4, .int .i64 u0, .int .i64 u1, .int .i64 u2, .int .i64 u3, .int .i64 g0, .int .i64 g1, .int .i64 g2, .int .i64 g3, .slice A' n' c'] 27 (0, 0)) w0.drew) := ⟨HD0.out.1, HD0.out.2.1, HD0.out.2.2.drew⟩
    clear AW QV QT P1 P2 HLO E1 E2 HD0
    refine wp_region_gated 3 (fun W => W.heap[w.heap.size]? = some (.cells #[.int .i64 a0, .int .i64 a1, .int .i64 a2, .int .i64 a3, .int .i64 a4, .int .i64 t0, .int .i64 t1, .int .i64 t2, .int .i64 t3, .int .i64 h0, .int .i64 h1, .int .i64 h2, .int .i64 h3, .slice A n c] 27 (0, 0)) ∧ W.heap[w.heap.size + 1]? = some (.cells #[.int .i64 b0, .int .i64 b1, .int .i64 b2, .int .i64 b3, .int .i64 b4, .int .i64 u0, .int .i64 u1, .int .i64 u2, .int .i64 u3, .int .i64 g0, .int .i64 g1, .int .i64 g2, .int .i64 g3, .slice A' n' c'] 27 (0, 0))) (by kernel_rfl) ?_
    change Gated _ _ _ _ 3 _ 6 #[false, false, false, false, false, false] _ w0.drew
    refine Gated.load (i := 2) (v := ?_) (d := some 17) rfl rfl (by kernel_rfl) (by kernel_rfl) (by kernel_rfl) (fun _ _ _ h => h) rfl (by kernel_rfl) (by kernel_rfl) ⟨HDd.out.1, HDd.out.2.1⟩ ⟨by rfl, fun W hSw => ?_⟩ ?_
    rotate_left
    · obtain ⟨x0, x1, x2, x3, x4, x5, x6, x7, x8, x9, x10, x11, x12, x13⟩ := cells14 hSw.2
      (go_simp; all_goals with_reducible rfl)
    simp only [Act.put, List.setIfInBounds_toArray, List.set_cons_zero, List.set_cons_succ]
    obtain ⟨x0, x1, x2, x3, x4, x5, x6, x7, x8, x9, x10, x11, x12, x13⟩ := cells14 HDd.out.1
    refine Gated.go (i := 0) rfl (by kernel_rfl) (by rfl) (fun K hK => ?_)
    go_simp
    refine hK _ _ ⟨HDd.out.1, HDd.out.2.1⟩ ?_
    clear hK K x0 x1 x2 x3 x4 x5 x6 x7 x8 x9 x10 x11 x12 x13
    simp only [List.setIfInBounds_toArray, List.set_cons_zero]
    refine Gated.go (i := 1) rfl (by kernel_rfl) (by rfl) (fun K hK => ?_)
    go_simp
    refine (C1.out _).mono ?_
    rintro r w1 ⟨rfl, hb1⟩
    have HD1 := Lib.hid (sd2_on HDd.out hb1)
    refine hK _ _ ⟨HD1.out.1, HD1.out.2.1⟩ ?_
    clear hK K
    simp only [List.setIfInBounds_toArray, List.set_cons_zero, List.set_cons_succ]
    refine Gated.step (i := 3) rfl (by kernel_rfl) (by rfl) (by rfl) (fun K hK => ?_)
    go_simp
    refine (C2.out _).mono ?_
    rintro r w2 ⟨rfl, hb2⟩
    have HD2 := Lib.hid (sd2_on HD1.out hb2)
    refine hK _ _ ?_
    clear hK K hb1 hb2 HD1 HDd C1 C2
    simp only [List.setIfInBounds_toArray, List.set_cons_zero, List.set_cons_succ]
    obtain ⟨x0, x1, x2, x3, x4, x5, x6, x7, x8, x9, x10, x11, x12, x13⟩ := cells14 HD2.out.1
    obtain ⟨fz0, fz1, fz2, fz3, fz4, fz5, fz6, fz7, fz8, fz9, fz10, fz11, fz12, fz13⟩ := frozen14 HD2.out.1
    refine Gated.step (i := 4) rfl (by kernel_rfl) (by rfl) (by rfl) (fun K hK => ?_)
    go_simp
    refine hK _ _ ?_
    clear hK K x0 x1 x2 x3 x4 x5 x6 x7 x8 x9 x10 x11 x12 x13 fz0 fz1 fz2 fz3 fz4 fz5 fz6 fz7 fz8 fz9 fz10 fz11 fz12 fz13
    simp only [List.setIfInBounds_toArray, List.set_cons_zero, List.set_cons_succ]
    have HD3 : Hid (Sd2 w (.cells #[.int .i64 a0, .int .i64 a1, .int .i64 a2, .int .i64 a3, .int .i64 a4, .int .i64 t0, .int .i64 t1, .int .i64 t2, .int .i64 t3, .int .i64 h0, .int .i64 h1, .int .i64 h2, .int .i64 h3, .slice A m c] 27 (0, 0)) (.cells #[.int .i64 b0, .int .i64 b1, .int .i64 b2, .int .i64 b3, .int .i64 b4, .int .i64 u0, .int .i64 u1, .int .i64 u2, .int .i64 u3, .int .i64 g0, .int .i64 g1, .int .i64 g2, .int .i64 g3, .slice A' n' c'] 27 (0, 0)) ((((((((((((((w2.setCell ⟨w.heap.size, 0, none⟩ (.int .i64 a0)).setCell ⟨w.heap.size, 1, none⟩ (.int .i64 a1)).setCell ⟨w.heap.size, 2, none⟩ (.int .i64 a2)).setCell ⟨w.heap.size, 3, none⟩ (.int .i64 a3)).setCell ⟨w.heap.size, 4, none⟩ (.int .i64 a4)).setCell ⟨w.heap.size, 5, none⟩ (.int .i64 t0)).setCell ⟨w.heap.size, 6, none⟩ (.int .i64 t1)).setCell ⟨w.heap.size, 7, none⟩ (.int .i64 t2)).setCell ⟨w.heap.size, 8, none⟩ (.int .i64 t3)).setCell ⟨w.heap.size, 9, none⟩ (.int .i64 h0)).setCell ⟨w.heap.size, 10, none⟩ (.int .i64 h1)).setCell ⟨w.heap.size, 11, none⟩ (.int .i64 h2)).setCell ⟨w.heap.size, 12, none⟩ (.int .i64 h3)).setCell ⟨w.heap.size, 13, none⟩ (.slice A m c))) := first_stored HD2.out
    generalize ((((((((((((((w2.setCell ⟨w.heap.size, 0, none⟩ (.int .i64 a0)).setCell ⟨w.heap.size, 1, none⟩ (.int .i64 a1)).setCell ⟨w.heap.size, 2, none⟩ (.int .i64 a2)).setCell ⟨w.heap.size, 3, none⟩ (.int .i64 a3)).setCell ⟨w.heap.size, 4, none⟩ (.int .i64 a4)).setCell ⟨w.heap.size, 5, none⟩ (.int .i64 t0)).setCell ⟨w.heap.size, 6, none⟩ (.int .i64 t1)).setCell ⟨w.heap.size, 7, none⟩ (.int .i64 t2)).setCell ⟨w.heap.size, 8, none⟩ (.int .i64 t3)).setCell ⟨w.heap.size, 9, none⟩ (.int .i64 h0)).setCell ⟨w.heap.size, 10, none⟩ (.int .i64 h1)).setCell ⟨w.heap.size, 11, none⟩ (.int .i64 h2)).setCell ⟨w.heap.size, 12, none⟩ (.int .i64 h3)).setCell ⟨w.heap.size, 13, none⟩ (.slice A m c)) = w3 at *
    obtain ⟨y0, y1, y2, y3, y4, y5, y6, y7, y8, y9, y10, y11, y12, y13⟩ := cells14 HD3.out.2.1
    obtain ⟨fz0, fz1, fz2, fz3, fz4, fz5, fz6, fz7, fz8, fz9, fz10, fz11, fz12, fz13⟩ := frozen14 HD3.out.2.1
    refine Gated.step (i := 5) rfl (by kernel_rfl) (by rfl) (by rfl) (fun K hK => ?_)
    go_simp
    refine hK _ _ ?_
    clear hK K y0 y1 y2 y3 y4 y5 y6 y7 y8 y9 y10 y11 y12 y13 fz0 fz1 fz2 fz3 fz4 fz5 fz6 fz7 fz8 fz9 fz10 fz11 fz12 fz13
    simp only [List.setIfInBounds_toArray, List.set_cons_zero, List.set_cons_succ]
    have HD4 : Hid (Sd2 w (.cells #[.int .i64 a0, .int .i64 a1, .int .i64 a2, .int .i64 a3, .int .i64 a4, .int .i64 t0, .int .i64 t1, .int .i64 t2, .int .i64 t3, .int .i64 h0, .int .i64 h1, .int .i64 h2, .int .i64 h3, .slice A m c] 27 (0, 0)) (.cells #[.int .i64 b0, .int .i64 b1, .int .i64 b2, .int .i64 b3, .int .i64 b4, .int .i64 u0, .int .i64 u1, .int .i64 u2, .int .i64 u3, .int .i64 g0, .int .i64 g1, .int .i64 g2, .int .i64 g3, .slice A' m' c'] 27 (0, 0)) ((((((((((((((w3.setCell ⟨(w.heap.size + 1), 0, none⟩ (.int .i64 b0)).setCell ⟨(w.heap.size + 1), 1, none⟩ (.int .i64 b1)).setCell ⟨(w.heap.size + 1), 2, none⟩ (.int .i64 b2)).setCell ⟨(w.heap.size + 1), 3, none⟩ (.int .i64 b3)).setCell ⟨(w.heap.size + 1), 4, none⟩ (.int .i64 b4)).setCell ⟨(w.heap.size + 1), 5, none⟩ (.int .i64 u0)).setCell ⟨(w.heap.size + 1), 6, none⟩ (.int .i64 u1)).setCell ⟨(w.heap.size + 1), 7, none⟩ (.int .i64 u2)).setCell ⟨(w.heap.size + 1), 8, none⟩ (.int .i64 u3)).setCell ⟨(w.heap.size + 1), 9, none⟩ (.int .i64 g0)).setCell ⟨(w.heap.size + 1), 10, none⟩ (.int .i64 g1)).setCell ⟨(w.heap.size + 1), 11, none⟩ (.int .i64 g2)).setCell ⟨(w.heap.size + 1), 12, none⟩ (.int .i64 g3)).setCell ⟨(w.heap.size + 1), 13, none⟩ (.slice A' m' c'))) := second_stored HD3.out
    generalize ((((((((((((((w3.setCell ⟨(w.heap.size + 1), 0, none⟩ (.int .i64 b0)).setCell ⟨(w.heap.size + 1), 1, none⟩ (.int .i64 b1)).setCell ⟨(w.heap.size + 1), 2, none⟩ (.int .i64 b2)).setCell ⟨(w.heap.size + 1), 3, none⟩ (.int .i64 b3)).setCell ⟨(w.heap.size + 1), 4, none⟩ (.int .i64 b4)).setCell ⟨(w.heap.size + 1), 5, none⟩ (.int .i64 u0)).setCell ⟨(w.heap.size + 1), 6, none⟩ (.int .i64 u1)).setCell ⟨(w.heap.size + 1), 7, none⟩ (.int .i64 u2)).setCell ⟨(w.heap.size + 1), 8, none⟩ (.int .i64 u3)).setCell ⟨(w.heap.size + 1), 9, none⟩ (.int .i64 g0)).setCell ⟨(w.heap.size + 1), 10, none⟩ (.int .i64 g1)).setCell ⟨(w.heap.size + 1), 11, none⟩ (.int .i64 g2)).setCell ⟨(w.heap.size + 1), 12, none⟩ (.int .i64 g3)).setCell ⟨(w.heap.size + 1), 13, none⟩ (.slice A' m' c')) = w4 at *
    refine Gated.done (by kernel_rfl) ?_
    (try go_wp2_with fail)
    go_meet
    exact HD4
  case rest =>
    have T2' : Hid (TwoBox w w.heap.size (w.heap.size + 1) (.cells #[.int .i64 a0, .int .i64 a1, .int .i64 a2, .int .i64 a3, .int .i64 a4, .int .i64 t0, .int .i64 t1, .int .i64 t2, .int .i64 t3, .int .i64 h0, .int .i64 h1, .int .i64 h2, .int .i64 h3, .slice A m c] 27 (0, 0)) (.cells #[.int .i64 b0, .int .i64 b1, .int .i64 b2, .int .i64 b3, .int .i64 b4, .int .i64 u0, .int .i64 u1, .int .i64 u2, .int .i64 u3, .int .i64 g0, .int .i64 g1, .int .i64 g2, .int .i64 g3, .slice A' m' c'] 27 (0, 0)) wc) := ⟨hcut.out.1, hcut.out.2.1, by omega, Nat.le_refl _, Nat.le_succ _, hcut.out.2.2⟩
    clear hcut C1 C2 HD0
    have T2 := T2'
    clear T2'
    generalize wc = w2 at *
    obtain ⟨x0, x1, x2, x3, x4, x5, x6, x7, x8, x9, x10, x11, x12, x13⟩ := cells14 T2.out.one
    obtain ⟨y0, y1, y2, y3, y4, y5, y6, y7, y8, y9, y10, y11, y12, y13⟩ := cells14 T2.out.two
    have fz := frozen_at T2.out.two 0
    go_upto_region 3 with fail
    have T3 : Hid (TwoBox w w.heap.size (w.heap.size + 1) (.cells #[.int .i64 a0, .int .i64 a1, .int .i64 a2, .int .i64 a3, .int .i64 a4, .int .i64 t0, .int .i64 t1, .int .i64 t2, .int .i64 t3, .int .i64 h0, .int .i64 h1, .int .i64 h2, .int .i64 h3, .slice A m c] 27 (0, 0)) (.cells #[.int .i64 a0, .int .i64 b1, .int .i64 b2, .int .i64 b3, .int .i64 b4, .int .i64 u0, .int .i64 u1, .int .i64 u2, .int .i64 u3, .int .i64 g0, .int .i64 g1, .int .i64 g2, .int .i64 g3, .slice A' m' c'] 27 (0, 0)) (w2.setCell ⟨(w.heap.size + 1), 0, none⟩ (.int .i64 a0))) := T2.out.set _
    clear x0 x1 x2 x3 x4 x5 x6 x7 x8 x9 x10 x11 x12 x13 y0 y1 y2 y3 y4 y5 y6 y7 y8 y9 y10 y11 y12 y13 fz T2
    generalize w2.setCell ⟨(w.heap.size + 1), 0, none⟩ (.int .i64 a0) = w3 at *
    obtain ⟨x0, x1, x2, x3, x4, x5, x6, x7, x8, x9, x10, x11, x12, x13⟩ := cells14 T3.out.one
    have QV3 := Lib.hid (QV.out _ T3.out.below)
    by_cases hv : ¬ Sb.valid ⟨a0, a1, a2, a3, a4, ⟨t0, t1, t2, t3⟩, ⟨h0, h1, h2, h3⟩, l⟩
    · rw [decide_eq_false hv] at QV3
      clear hv P1 P2 HLO E1 E2 QT QV
      go_wp2_with (first
        | (go_at_call 19; refine QV3.out.mono ?_; rintro r w4 ⟨rfl, hb4⟩; have T4 := Lib.hid (T3.out.on hb4); clear hb4 x0 x1 x2 x3 x4 x5 x6 x7 x8 x9 x10 x11 x12 x13; obtain ⟨x0, x1, x2, x3, x4, x5, x6, x7, x8, x9, x10, x11, x12, x13⟩ := cells14 T4.out.one)
        | (go_at_call 15; revert T4; intro T4; refine (AW.out _ T4.out.below).mono ?_; rintro r w5 ⟨rfl, hb5⟩; have T5 := Lib.hid (T4.out.on hb5); clear hb5))
      go_ret
      exact ⟨rfl, T5.out.below⟩
    replace hv := Classical.not_not.1 hv
    rw [decide_eq_true hv] at QV3
    have HV := Lib.hid hv
    have ha0 : 1 ≤ a0 ∧ a0 ≤ 1099511627775 := hv.1.1
    clear hv QV
    by_cases hmax : 1099511627775 ≤ a0
    · have d0 : decide (1099511627775 ≤ a0) = true := decide_eq_true hmax
      clear hmax ha0 HV P1 P2 HLO E1 E2 QT
      go_wp2_with (first
        | (go_at_call 19; refine QV3.out.mono ?_; rintro r w4 ⟨rfl, hb4⟩; have T4 := Lib.hid (T3.out.on hb4); clear hb4 x0 x1 x2 x3 x4 x5 x6 x7 x8 x9 x10 x11 x12 x13; obtain ⟨x0, x1, x2, x3, x4, x5, x6, x7, x8, x9, x10, x11, x12, x13⟩ := cells14 T4.out.one)
        | (go_at_call 15; revert T4; intro T4; refine (AW.out _ T4.out.below).mono ?_; rintro r w5 ⟨rfl, hb5⟩; have T5 := Lib.hid (T4.out.on hb5); clear hb5))
      go_ret
      exact ⟨rfl, T5.out.below⟩
    have d0 : decide (1099511627775 ≤ a0) = false := decide_eq_false hmax
    have hw0 : IntKind.i64.wrap (a0 + 1) = a0 + 1 := by rw [IntKind.wrap_i64]; omega
    go_upto_region 5 with (go_at_call 19; refine QV3.out.mono ?_; rintro r w4 ⟨rfl, hb4⟩; have T4 := Lib.hid (T3.out.on hb4); clear hb4 x0 x1 x2 x3 x4 x5 x6 x7 x8 x9 x10 x11 x12 x13; obtain ⟨x0, x1, x2, x3, x4, x5, x6, x7, x8, x9, x10, x11, x12, x13⟩ := cells14 T4.out.one)
    obtain ⟨y0, y1, y2, y3, y4, y5, y6, y7, y8, y9, y10, y11, y12, y13⟩ := cells14 T4.out.two
    have fz := frozen_at T4.out.two 0
    go_upto_region 6 with fail
    have T5 : Hid (TwoBox w w.heap.size (w.heap.size + 1) (.cells #[.int .i64 a0, .int .i64 a1, .int .i64 a2, .int .i64 a3, .int .i64 a4, .int .i64 t0, .int .i64 t1, .int .i64 t2, .int .i64 t3, .int .i64 h0, .int .i64 h1, .int .i64 h2, .int .i64 h3, .slice A m c] 27 (0, 0)) (.cells #[.int .i64 (a0 + 1), .int .i64 b1, .int .i64 b2, .int .i64 b3, .int .i64 b4, .int .i64 u0, .int .i64 u1, .int .i64 u2, .int .i64 u3, .int .i64 g0, .int .i64 g1, .int .i64 g2, .int .i64 g3, .slice A' m' c'] 27 (0, 0)) (w4.setCell ⟨(w.heap.size + 1), 0, none⟩ (.int .i64 (a0 + 1)))) := T4.out.set _
    clear x0 x1 x2 x3 x4 x5 x6 x7 x8 x9 x10 x11 x12 x13 y0 y1 y2 y3 y4 y5 y6 y7 y8 y9 y10 y11 y12 y13 fz T3 T4 QV3 d0
    generalize w4.setCell ⟨(w.heap.size + 1), 0, none⟩ (.int .i64 (a0 + 1)) = w5 at *
    obtain ⟨y0, y1, y2, y3, y4, y5, y6, y7, y8, y9, y10, y11, y12, y13⟩ := cells14 T5.out.two
    have QT5 := Lib.hid (QT.out _ T5.out.below)
    by_cases hv2 : ¬ Sb.valid ⟨a0 + 1, b1, b2, b3, b4, ⟨u0, u1, u2, u3⟩, ⟨g0, g1, g2, g3⟩, l'⟩
    · rw [decide_eq_false hv2] at QT5
      clear hv2 HV P1 P2 HLO E1 E2 QT
      go_wp2_with (first
        | (go_at_call 19; refine QT5.out.mono ?_; rintro r w6 ⟨rfl, hb6⟩; have T6 := Lib.hid (T5.out.on hb6); clear hb6 y0 y1 y2 y3 y4 y5 y6 y7 y8 y9 y10 y11 y12 y13)
        | (go_at_call 15; revert T6; intro T6; refine (AW.out _ T6.out.below).mono ?_; rintro r w7 ⟨rfl, hb7⟩; have T7 := Lib.hid (T6.out.on hb7); clear hb7))
      go_ret
      exact ⟨rfl, T7.out.below⟩
    replace hv2 := Classical.not_not.1 hv2
    rw [decide_eq_true hv2] at QT5
    have HV2 := Lib.hid hv2
    clear hv2 QT hmax ha0 hw0
    go_wp2_with fail
    refine QT5.out.mono ?_
    rintro r w6 ⟨rfl, hb6⟩
    have T6 := Lib.hid (T5.out.on hb6)
    clear hb6 y0 y1 y2 y3 y4 y5 y6 y7 y8 y9 y10 y11 y12 y13 T5 QT5
    go_wp2_with fail
    refine (new_dev 3 3 rfl _ (by decide) (by decide)).mono ?_
    rintro r w8 ⟨g, cb, mb, rfl, hd8, hdn, hb8⟩
    have T8 := Lib.hid (T6.out.on hb8)
    have HDN := Lib.hid hdn
    have HLT : Hid (w.heap.size < w6.heap.size ∧ (w.heap.size + 1) < w6.heap.size) := T6.out.lt
    have HWS : Hid (w.heap.size ≤ w6.heap.size) := T6.out.below.size
    have HD8 := Lib.hid hd8
    obtain ⟨f1, hp1, he1⟩ := first_pub HV.out (show 2 ≤ 3 by decide) (List.replicate (3 * 64) 0)
    have P1' := P1.out _ g cb mb _ T8.out.below hd8 (by decide)
    rw [hp1, he1] at P1'
    have P19 := Lib.hid P1'
    unfold WriteDid at P19
    clear hd8 hdn hb8 hp1 he1 P1' P1
    obtain ⟨x0, x1, x2, x3, x4, x5, x6, x7, x8, x9, x10, x11, x12, x13⟩ := cells14 T8.out.one
    go_wp2_with fail
    refine P19.out.mono ?_
    rintro r w9 ⟨rfl, hd9, hk9⟩
    have T9 := Lib.hid (T8.out.dev HDN.out HLT.out HWS.out hk9)
    have HD9 : Hid (Dev w9 g cb mb 3 (Flash.clean (holdOne 3 ⟨a0, a1, a2, a3, a4, ⟨t0, t1, t2, t3⟩, ⟨h0, h1, h2, h3⟩, l⟩) 1 false f1)) := hd9
    clear hd9 hk9 x0 x1 x2 x3 x4 x5 x6 x7 x8 x9 x10 x11 x12 x13 P19 HD8 T8 T6
    go_wp2_with fail
    refine (fuse_dev 1 (by decide) HD9.out).mono ?_
    rintro r w10 ⟨rfl, hd10, hk10⟩
    have T10 := Lib.hid (T9.out.dev HDN.out HLT.out HWS.out hk10)
    have P2' := P2.out _ g cb mb _ T10.out.below hd10 (show 1 < 4611686018427387904 by decide)
    obtain ⟨s2, hs2⟩ : ∃ s2, s2 = (Flash.clean (holdOne 3 ⟨a0, a1, a2, a3, a4, ⟨t0, t1, t2, t3⟩, ⟨h0, h1, h2, h3⟩, l⟩) 1 true 1).pub 3 ⟨a0 + 1, b1, b2, b3, b4, ⟨u0, u1, u2, u3⟩, ⟨g0, g1, g2, g3⟩, l'⟩ := ⟨_, rfl⟩
    rw [← hs2] at P2'
    generalize (Flash.clean (holdOne 3 ⟨a0, a1, a2, a3, a4, ⟨t0, t1, t2, t3⟩, ⟨h0, h1, h2, h3⟩, l⟩) 1 true 1).pubErr 3 ⟨a0 + 1, b1, b2, b3, b4, ⟨u0, u1, u2, u3⟩, ⟨g0, g1, g2, g3⟩, l'⟩ = e2 at P2'
    have P29 := Lib.hid P2'
    unfold WriteDid at P29
    have HS2 := Lib.hid hs2
    clear P2' hs2 P2 hd10 hk10 HD9 T9
    obtain ⟨y0, y1, y2, y3, y4, y5, y6, y7, y8, y9, y10, y11, y12, y13⟩ := cells14 T10.out.two
    go_wp2_with fail
    refine P29.out.mono ?_
    rintro r w11 ⟨rfl, hd11, hk11⟩
    have T11 := Lib.hid ((T10.out.dev HDN.out HLT.out HWS.out hk11).made (.cells #[.int .i64 0, .int .i64 x] 56))
    have HD11 : Hid (Dev (w11.alloc (.cells #[.int .i64 0, .int .i64 x] 56)) g cb mb 3 s2) := hd11.on (below_new _ _)
    have TR : Hid (Trs (w11.alloc (.cells #[.int .i64 0, .int .i64 x] 56)) (w11.alloc (.cells #[.int .i64 0, .int .i64 x] 56)).heap.size (some ⟨w11.heap.size, 0, none⟩) [(0, x)]) := fun k hk => by
      obtain rfl : k = 0 := by simpa using hk
      refine ⟨_, rfl, by simp, ?_, ?_⟩
      · rw [add_flat, cell_of_row _ _ _ _ _ _ (heap_alloc_new w11 _)]; rfl
      · rw [add_flat, cell_of_row _ _ _ _ _ _ (heap_alloc_new w11 _)]; rfl
    clear P29 hd11 hk11 y0 y1 y2 y3 y4 y5 y6 y7 y8 y9 y10 y11 y12 y13 T10
    go_wp2_with fail
    refine (crash_any none _ 0 0 1 1 [] [(0, x)] (by omega) rfl rfl (fun k hk => absurd hk (by simp)) TR HD11).mono ?_
    rintro r w12 ⟨g5, c5, m5, rfl, hd12, -, -, -, hb12⟩
    have T12 := Lib.hid (T11.out.on hb12)
    obtain ⟨q192, qno, qyes, qsec⟩ := torn_found HV.out HV2.out rfl 1 [(0, x)] s2 HS2.out _ rfl
    have HD12 := Lib.hid hd12
    clear hd12 hb12 TR HD11 T11
    generalize crashed 3 s2.cur s2.old [] [(0, x)] = lc at *
    have HLC := Lib.hid q192
    have HNO := Lib.hid qno
    have HYES := Lib.hid qyes
    have HSEC := Lib.hid qsec
    have HIM : Hid (Calls Tryd.prog 22 #[.pointer (some ⟨g5, 0, none⟩)] w12 fun e w' => ∃ gi cap, e = .returned (.slice (some ⟨gi, 0, none⟩) 192 cap) ∧ Bs w' w'.heap.size (some ⟨gi, 0, none⟩) lc ∧ 192 ≤ cap ∧ cap ≤ 9223372036854775807 ∧ Below w12.heap.size w12 w') :=
      (image_any HD12).mono fun _ _ ⟨gi, cap, e1, _, h1, h2, h3, h4, _⟩ => ⟨gi, cap, by rw [e1]; show _ = Ending.returned (.slice _ 192 cap); rw [← HLC.out]; rfl, h1, by rw [← HLC.out]; exact h2, by unfold maxLen at h3; exact h3, h4⟩
    have HL12 : Hid (∀ W, Below w12.heap.size w12 W → Calls Tryd.prog 14 #[.pointer (some ⟨g5, 0, none⟩)] W (GotS W ((Sp.newest (sec lc 0) (sec lc 1)).getD Sb.S0) (Sp.newest (sec lc 0) (sec lc 1)).isSome)) := fun W hW => HLO.out W g5 c5 m5 _ (T12.out.on hW).below (HD12.out.on hW) rfl
    clear q192 qno qyes qsec HLO HS2 HD12
    generalize Sp.newest (sec lc 0) (sec lc 1) = nw at *
    unfold GotS at HL12
    go_wp2_with fail
    refine HIM.out.mono ?_
    rintro r w13 ⟨gi, cap, rfl, hbs13, hcap1, hcap2, hb13⟩
    have T13 := Lib.hid (T12.out.on hb13)
    have HBI := Lib.hid hbs13
    have HB13 := Lib.hid hb13
    clear hbs13 hb13 HIM
    go_wp2_with fail
    refine (HL12.out _ HB13.out).mono ?_
    rintro r w14 ⟨A8, n8, c8, rfl, ⟨hat8, -⟩, hb14⟩
    obtain ⟨xs, hxs⟩ : ∃ xs, xs = nw.getD Sb.S0 := ⟨_, rfl⟩
    rw [← hxs] at hat8 ⊢
    have HXS := Lib.hid hxs
    have T14 := Lib.hid ((T13.out.on hb14).made (.cells #[.int .i64 xs.gen, .int .i64 xs.phase, .int .i64 xs.mig, .int .i64 xs.tail, .int .i64 xs.now, .int .i64 xs.t.id, .int .i64 xs.t.ver, .int .i64 xs.t.rs, .int .i64 xs.t.reg, .int .i64 xs.h.id, .int .i64 xs.h.ver, .int .i64 xs.h.rs, .int .i64 xs.h.reg, .slice A8 n8 c8] 27))
    have HN14 : Hid ((w14.alloc (.cells #[.int .i64 xs.gen, .int .i64 xs.phase, .int .i64 xs.mig, .int .i64 xs.tail, .int .i64 xs.now, .int .i64 xs.t.id, .int .i64 xs.t.ver, .int .i64 xs.t.rs, .int .i64 xs.t.reg, .int .i64 xs.h.id, .int .i64 xs.h.ver, .int .i64 xs.h.rs, .int .i64 xs.h.reg, .slice A8 n8 c8] 27)).heap[w14.heap.size]? = some (.cells #[.int .i64 xs.gen, .int .i64 xs.phase, .int .i64 xs.mig, .int .i64 xs.tail, .int .i64 xs.now, .int .i64 xs.t.id, .int .i64 xs.t.ver, .int .i64 xs.t.rs, .int .i64 xs.t.reg, .int .i64 xs.h.id, .int .i64 xs.h.ver, .int .i64 xs.h.rs, .int .i64 xs.h.reg, .slice A8 n8 c8] 27 (0, 0))) := heap_alloc_new _ _
    have HA14 : Hid (SbAt (w14.alloc (.cells #[.int .i64 xs.gen, .int .i64 xs.phase, .int .i64 xs.mig, .int .i64 xs.tail, .int .i64 xs.now, .int .i64 xs.t.id, .int .i64 xs.t.ver, .int .i64 xs.t.rs, .int .i64 xs.t.reg, .int .i64 xs.h.id, .int .i64 xs.h.ver, .int .i64 xs.h.rs, .int .i64 xs.h.reg, .slice A8 n8 c8] 27)) (w14.alloc (.cells #[.int .i64 xs.gen, .int .i64 xs.phase, .int .i64 xs.mig, .int .i64 xs.tail, .int .i64 xs.now, .int .i64 xs.t.id, .int .i64 xs.t.ver, .int .i64 xs.t.rs, .int .i64 xs.t.reg, .int .i64 xs.h.id, .int .i64 xs.h.ver, .int .i64 xs.h.rs, .int .i64 xs.h.reg, .slice A8 n8 c8] 27)).heap.size xs A8 n8 c8) := hat8.on (below_new _ _)
    have HBJ : Hid (Bs (w14.alloc (.cells #[.int .i64 xs.gen, .int .i64 xs.phase, .int .i64 xs.mig, .int .i64 xs.tail, .int .i64 xs.now, .int .i64 xs.t.id, .int .i64 xs.t.ver, .int .i64 xs.t.rs, .int .i64 xs.t.reg, .int .i64 xs.h.id, .int .i64 xs.h.ver, .int .i64 xs.h.rs, .int .i64 xs.h.reg, .slice A8 n8 c8] 27)) (w14.alloc (.cells #[.int .i64 xs.gen, .int .i64 xs.phase, .int .i64 xs.mig, .int .i64 xs.tail, .int .i64 xs.now, .int .i64 xs.t.id, .int .i64 xs.t.ver, .int .i64 xs.t.rs, .int .i64 xs.t.reg, .int .i64 xs.h.id, .int .i64 xs.h.ver, .int .i64 xs.h.rs, .int .i64 xs.h.reg, .slice A8 n8 c8] 27)).heap.size (some ⟨gi, 0, none⟩) lc) := bs_own (HBI.out.below (below_made hb14 (Nat.le_refl _) _) (Nat.le_refl _))
    clear hxs hat8 hb14 HL12 HB13 HBI T12 T13
    go_upto_region 18 with fail
    generalize w14.alloc (.cells #[.int .i64 xs.gen, .int .i64 xs.phase, .int .i64 xs.mig, .int .i64 xs.tail, .int .i64 xs.now, .int .i64 xs.t.id, .int .i64 xs.t.ver, .int .i64 xs.t.rs, .int .i64 xs.t.reg, .int .i64 xs.h.id, .int .i64 xs.h.ver, .int .i64 xs.h.rs, .int .i64 xs.h.reg, .slice A8 n8 c8] 27) = w15 at *
    obtain ⟨y0, y1, y2, y3, y4, y5, y6, y7, y8, y9, y10, y11, y12, y13⟩ := cells14 T14.out.two
    have hp := HPAR.out
    have ha1 : 1 ≤ a0 := HV.out.1.1.1
    have htm : (a0 + 1).tmod 2 = (a0 + 1) % 2 := Int.tmod_eq_emod_of_nonneg (by omega)
    have HSB := Lib.hid (sec_bs HBJ.out (add_pos _ 64 (by decide)))
    have HSL0 : Hid ((sec lc 0).length = 64) := sec_len (n := 3) HLC.out (by decide)
    have HSL1 : Hid ((sec lc 1).length = 64) := sec_len (n := 3) HLC.out (by decide)
    rw [hp] at htm
    have HNO2 : Hid ((¬ ∃ y, Sb.good 1 (sec lc 1) y) → nw = some ⟨a0, a1, a2, a3, a4, ⟨t0, t1, t2, t3⟩, ⟨h0, h1, h2, h3⟩, l⟩) := by
      have h := HNO.out
      have e : (⟨a0 + 1, b1, b2, b3, b4, ⟨u0, u1, u2, u3⟩, ⟨g0, g1, g2, g3⟩, l'⟩ : Sb.S).gen % 2 = 1 := hp
      rw [e] at h
      exact h
    have HYES2 : Hid (Sb.good 1 (sec lc 1) ⟨a0 + 1, b1, b2, b3, b4, ⟨u0, u1, u2, u3⟩, ⟨g0, g1, g2, g3⟩, l'⟩ → nw = some ⟨a0 + 1, b1, b2, b3, b4, ⟨u0, u1, u2, u3⟩, ⟨g0, g1, g2, g3⟩, l'⟩) := by
      have h := HYES.out
      have e : (⟨a0 + 1, b1, b2, b3, b4, ⟨u0, u1, u2, u3⟩, ⟨g0, g1, g2, g3⟩, l'⟩ : Sb.S).gen % 2 = 1 := hp
      rw [e] at h
      exact h
    have hs3 : sec lc 1 = tornTwo ⟨a0 + 1, b1, b2, b3, b4, ⟨u0, u1, u2, u3⟩, ⟨g0, g1, g2, g3⟩, l'⟩ (keptBy [] [(0, x)] 0) := by
      have h := HSEC.out
      have e : (⟨a0 + 1, b1, b2, b3, b4, ⟨u0, u1, u2, u3⟩, ⟨g0, g1, g2, g3⟩, l'⟩ : Sb.S).gen % 2 = 1 := hp
      rw [e] at h
      exact h
    have HSE2 : Hid (¬ Sb.good 1 (sec lc 1) ⟨a0 + 1, b1, b2, b3, b4, ⟨u0, u1, u2, u3⟩, ⟨g0, g1, g2, g3⟩, l'⟩) := by
      have h := HSEL.out _ rfl
      rw [hp, ← hs3] at h
      exact h
    clear hs3
    have HDC : Hid (∀ cc, 64 ≤ cc → cc ≤ 9223372036854775807 → Calls Tryd.prog 9 #[.slice (some ⟨gi, 0 + 64, none⟩) 64 cc, .int .i64 1] w15 (DecSb w15 1 (sec lc 1))) := fun cc k1 k2 => refsbdec_any 1 _ w15.heap.size 64 cc _ w15 (Nat.le_refl _) ⟨(fun e => by cases e), k1, k2⟩ HSL1.out HSB.out.2 (by decide)
    unfold DecSb HasSb NoSb at HDC
    clear hp ha1 HNO HYES HSB HSEC HSEL HPAR
    have hww0 : IntKind.i64.wrap 0 = 0 := rfl
    have hww1 : IntKind.i64.wrap 64 = 64 := rfl
    have hww2 : IntKind.i64.wrap 128 = 128 := rfl
    have jj0 : cap ≠ 0 := by omega
    have jj64 : cap ≠ 64 := by omega
    have i128 : (128 : Int) ≤ (cap : Int) := by omega
    go_upto_region 19 with fail
    clear y0 y1 y2 y3 y4 y5 y6 y7 y8 y9 y10 y11 y12 y13
    go_wp2_with fail
    refine (HDC.out (cap - 64) (by omega) (by omega)).mono ?_
    rintro r w16 (⟨y, hy, A9, n9, c9, rfl, ⟨hat9, -⟩, hb16⟩ | ⟨hno, rfl, hb16⟩)
    case inl =>
      have T16 := Lib.hid ((T14.out.on hb16).made (.cells #[.int .i64 y.gen, .int .i64 y.phase, .int .i64 y.mig, .int .i64 y.tail, .int .i64 y.now, .int .i64 y.t.id, .int .i64 y.t.ver, .int .i64 y.t.rs, .int .i64 y.t.reg, .int .i64 y.h.id, .int .i64 y.h.ver, .int .i64 y.h.rs, .int .i64 y.h.reg, .slice A9 n9 c9] 27))
      have HN16 : Hid ((w16.alloc (.cells #[.int .i64 y.gen, .int .i64 y.phase, .int .i64 y.mig, .int .i64 y.tail, .int .i64 y.now, .int .i64 y.t.id, .int .i64 y.t.ver, .int .i64 y.t.rs, .int .i64 y.t.reg, .int .i64 y.h.id, .int .i64 y.h.ver, .int .i64 y.h.rs, .int .i64 y.h.reg, .slice A9 n9 c9] 27)).heap[w16.heap.size]? = some (.cells #[.int .i64 y.gen, .int .i64 y.phase, .int .i64 y.mig, .int .i64 y.tail, .int .i64 y.now, .int .i64 y.t.id, .int .i64 y.t.ver, .int .i64 y.t.rs, .int .i64 y.t.reg, .int .i64 y.h.id, .int .i64 y.h.ver, .int .i64 y.h.rs, .int .i64 y.h.reg, .slice A9 n9 c9] 27 (0, 0))) := heap_alloc_new _ _
      have HM16 : Hid ((w16.alloc (.cells #[.int .i64 y.gen, .int .i64 y.phase, .int .i64 y.mig, .int .i64 y.tail, .int .i64 y.now, .int .i64 y.t.id, .int .i64 y.t.ver, .int .i64 y.t.rs, .int .i64 y.t.reg, .int .i64 y.h.id, .int .i64 y.h.ver, .int .i64 y.h.rs, .int .i64 y.h.reg, .slice A9 n9 c9] 27)).heap[w14.heap.size]? = some (.cells #[.int .i64 xs.gen, .int .i64 xs.phase, .int .i64 xs.mig, .int .i64 xs.tail, .int .i64 xs.now, .int .i64 xs.t.id, .int .i64 xs.t.ver, .int .i64 xs.t.rs, .int .i64 xs.t.reg, .int .i64 xs.h.id, .int .i64 xs.h.ver, .int .i64 xs.h.rs, .int .i64 xs.h.reg, .slice A8 n8 c8] 27 (0, 0))) := box_on (box_on HN14.out hb16) (below_new _ _)
      have HA16 : Hid (SbAt (w16.alloc (.cells #[.int .i64 y.gen, .int .i64 y.phase, .int .i64 y.mig, .int .i64 y.tail, .int .i64 y.now, .int .i64 y.t.id, .int .i64 y.t.ver, .int .i64 y.t.rs, .int .i64 y.t.reg, .int .i64 y.h.id, .int .i64 y.h.ver, .int .i64 y.h.rs, .int .i64 y.h.reg, .slice A9 n9 c9] 27)) (w16.alloc (.cells #[.int .i64 y.gen, .int .i64 y.phase, .int .i64 y.mig, .int .i64 y.tail, .int .i64 y.now, .int .i64 y.t.id, .int .i64 y.t.ver, .int .i64 y.t.rs, .int .i64 y.t.reg, .int .i64 y.h.id, .int .i64 y.h.ver, .int .i64 y.h.rs, .int .i64 y.h.reg, .slice A9 n9 c9] 27)).heap.size y A9 n9 c9) := hat9.on (below_new _ _)
      have HC16 : Hid (SbAt (w16.alloc (.cells #[.int .i64 y.gen, .int .i64 y.phase, .int .i64 y.mig, .int .i64 y.tail, .int .i64 y.now, .int .i64 y.t.id, .int .i64 y.t.ver, .int .i64 y.t.rs, .int .i64 y.t.reg, .int .i64 y.h.id, .int .i64 y.h.ver, .int .i64 y.h.rs, .int .i64 y.h.reg, .slice A9 n9 c9] 27)) (w16.alloc (.cells #[.int .i64 y.gen, .int .i64 y.phase, .int .i64 y.mig, .int .i64 y.tail, .int .i64 y.now, .int .i64 y.t.id, .int .i64 y.t.ver, .int .i64 y.t.rs, .int .i64 y.t.reg, .int .i64 y.h.id, .int .i64 y.h.ver, .int .i64 y.h.rs, .int .i64 y.h.reg, .slice A9 n9 c9] 27)).heap.size xs A8 n8 c8) := (HA14.out.on hb16).on (below_new _ _)
      have hyf := valid_short hy.2.1
      have HY := Lib.hid hy
      clear hb16 hat9 hy HDC HN14 HA14 HBJ
      go_upto_region 20 with fail
      generalize w16.alloc (.cells #[.int .i64 y.gen, .int .i64 y.phase, .int .i64 y.mig, .int .i64 y.tail, .int .i64 y.now, .int .i64 y.t.id, .int .i64 y.t.ver, .int .i64 y.t.rs, .int .i64 y.t.reg, .int .i64 y.h.id, .int .i64 y.h.ver, .int .i64 y.h.rs, .int .i64 y.h.reg, .slice A9 n9 c9] 27) = w17 at *
      have HQ := Lib.hid (E2.out y _ A9 n9 c9 (by omega) T16.out.below HA16.out)
      obtain ⟨x0, x1, x2, x3, x4, x5, x6, x7, x8, x9, x10, x11, x12, x13⟩ := cells14 HN16.out
      obtain ⟨y0, y1, y2, y3, y4, y5, y6, y7, y8, y9, y10, y11, y12, y13⟩ := cells14 T16.out.two
      by_cases hyt : y = ⟨a0 + 1, b1, b2, b3, b4, ⟨u0, u1, u2, u3⟩, ⟨g0, g1, g2, g3⟩, l'⟩
      case neg =>
        have e9 : Sb.same y ⟨a0 + 1, b1, b2, b3, b4, ⟨u0, u1, u2, u3⟩, ⟨g0, g1, g2, g3⟩, l'⟩ = false := by
          cases h : Sb.same y ⟨a0 + 1, b1, b2, b3, b4, ⟨u0, u1, u2, u3⟩, ⟨g0, g1, g2, g3⟩, l'⟩ with
          | false => rfl
          | true => exact absurd ((Sb.same_iff _ _).1 h) hyt
        rw [e9] at HQ
        clear hyt e9 HYES2 HNO2 HV HV2 E1 E2
        go_wp2_with (first
          | (go_at_call 10; refine HQ.out.mono ?_; rintro r w18 ⟨rfl, hb18⟩; have T18 := Lib.hid (T16.out.on hb18); clear hb18 x0 x1 x2 x3 x4 x5 x6 x7 x8 x9 x10 x11 x12 x13 y0 y1 y2 y3 y4 y5 y6 y7 y8 y9 y10 y11 y12 y13)
          | (go_at_call 15; revert T18; intro T18; refine (AW.out _ T18.out.below).mono ?_; rintro r w19 ⟨rfl, hb19⟩; have T19 := Lib.hid (T18.out.on hb19); clear hb19))
        go_ret
        exact ⟨rfl, T19.out.below⟩
      case pos => exact absurd (by rw [← hyt]; exact HY.out) HSE2.out
    case inr =>
      have T16 := Lib.hid ((T14.out.on hb16).made (.cells #[.int .i64 0, .int .i64 0, .int .i64 0, .int .i64 0, .int .i64 0, .int .i64 0, .int .i64 0, .int .i64 0, .int .i64 0, .int .i64 0, .int .i64 0, .int .i64 0, .int .i64 0, .slice none 0 0] 27))
      have HM16 : Hid ((w16.alloc (.cells #[.int .i64 0, .int .i64 0, .int .i64 0, .int .i64 0, .int .i64 0, .int .i64 0, .int .i64 0, .int .i64 0, .int .i64 0, .int .i64 0, .int .i64 0, .int .i64 0, .int .i64 0, .slice none 0 0] 27)).heap[w14.heap.size]? = some (.cells #[.int .i64 xs.gen, .int .i64 xs.phase, .int .i64 xs.mig, .int .i64 xs.tail, .int .i64 xs.now, .int .i64 xs.t.id, .int .i64 xs.t.ver, .int .i64 xs.t.rs, .int .i64 xs.t.reg, .int .i64 xs.h.id, .int .i64 xs.h.ver, .int .i64 xs.h.rs, .int .i64 xs.h.reg, .slice A8 n8 c8] 27 (0, 0))) := box_on (box_on HN14.out hb16) (below_new _ _)
      have HC16 : Hid (SbAt (w16.alloc (.cells #[.int .i64 0, .int .i64 0, .int .i64 0, .int .i64 0, .int .i64 0, .int .i64 0, .int .i64 0, .int .i64 0, .int .i64 0, .int .i64 0, .int .i64 0, .int .i64 0, .int .i64 0, .slice none 0 0] 27)) (w16.alloc (.cells #[.int .i64 0, .int .i64 0, .int .i64 0, .int .i64 0, .int .i64 0, .int .i64 0, .int .i64 0, .int .i64 0, .int .i64 0, .int .i64 0, .int .i64 0, .int .i64 0, .int .i64 0, .slice none 0 0] 27)).heap.size xs A8 n8 c8) := (HA14.out.on hb16).on (below_new _ _)
      have hnw : nw = some ⟨a0, a1, a2, a3, a4, ⟨t0, t1, t2, t3⟩, ⟨h0, h1, h2, h3⟩, l⟩ := HNO2.out hno
      have hxe : xs = ⟨a0, a1, a2, a3, a4, ⟨t0, t1, t2, t3⟩, ⟨h0, h1, h2, h3⟩, l⟩ := by rw [HXS.out, hnw]; rfl
      have hok : nw.isSome = true := by rw [hnw]; rfl
      have HXF : Hid (xs.f.length ≤ 4) := by show _ ≤ _; rw [hxe]; exact HK4.out.1
      have HS2 : Hid (Sb.same xs ⟨a0, a1, a2, a3, a4, ⟨t0, t1, t2, t3⟩, ⟨h0, h1, h2, h3⟩, l⟩ = true) := by show _ = _; rw [hxe]; exact Sb.same_self _
      clear hb16 hno HDC HN14 HA14 HBJ hnw hxe HYES2 HNO2 HV HV2
      go_upto_region 20 with fail
      generalize w16.alloc (.cells #[.int .i64 0, .int .i64 0, .int .i64 0, .int .i64 0, .int .i64 0, .int .i64 0, .int .i64 0, .int .i64 0, .int .i64 0, .int .i64 0, .int .i64 0, .int .i64 0, .int .i64 0, .slice none 0 0] 27) = w18 at *
      have T18 := T16
      have HM18 := HM16
      have QE1 : Hid (∀ W, Below w18.heap.size w18 W → Calls Tryd.prog 10 #[.agg #[.int .i64 xs.gen, .int .i64 xs.phase, .int .i64 xs.mig, .int .i64 xs.tail, .int .i64 xs.now, .int .i64 xs.t.id, .int .i64 xs.t.ver, .int .i64 xs.t.rs, .int .i64 xs.t.reg, .int .i64 xs.h.id, .int .i64 xs.h.ver, .int .i64 xs.h.rs, .int .i64 xs.h.reg, .slice A8 n8 c8], .agg #[.int .i64 a0, .int .i64 a1, .int .i64 a2, .int .i64 a3, .int .i64 a4, .int .i64 t0, .int .i64 t1, .int .i64 t2, .int .i64 t3, .int .i64 h0, .int .i64 h1, .int .i64 h2, .int .i64 h3, .slice A m c]] W fun r w' => r = .returned (.bool true) ∧ Below W.heap.size W w') := fun W hW => by
        rw [← HS2.out]
        exact E1.out xs W A8 n8 c8 HXF.out (T18.out.on hW).below (HC16.out.on hW)
      clear E1 E2 HS2 HXS HXF
      go_wp2_with (first
              | (go_at_call 10; revert U21; intro U21; refine (QE2.out _ (VB20.out.trans (VB21.out.mono VB20.out.size))).mono ?_; rintro r w22 ⟨rfl, hb22⟩; have U22 := Lib.hid (U21.out.on hb22); clear hb22)
              | (go_at_call 10; revert U20; intro U20; refine (QE1.out _ VB20.out).mono ?_; rintro r w21 ⟨rfl, hb21⟩; have U21 := Lib.hid (U20.out.on hb21); have VB21 := Lib.hid hb21; have HM21 : Hid (w21.heap[w14.heap.size]? = some _) := box_on HM20.out hb21; clear hb21 x0 x1 x2 x3 x4 x5 x6 x7 x8 x9 x10 x11 x12 x13 y0 y1 y2 y3 y4 y5 y6 y7 y8 y9 y10 y11 y12 y13; obtain ⟨x0, x1, x2, x3, x4, x5, x6, x7, x8, x9, x10, x11, x12, x13⟩ := cells14 HM21.out; obtain ⟨y0, y1, y2, y3, y4, y5, y6, y7, y8, y9, y10, y11, y12, y13⟩ := cells14 U21.out.two)
              | (go_at_call 15; revert T18; intro T18; refine (AW.out _ T18.out.below).mono ?_; rintro r w20 ⟨rfl, hb20⟩; have U20 := Lib.hid (T18.out.on hb20); have VB20 := Lib.hid hb20; have HM20 : Hid (w20.heap[w14.heap.size]? = some _) := box_on HM18.out hb20; clear hb20; obtain ⟨x0, x1, x2, x3, x4, x5, x6, x7, x8, x9, x10, x11, x12, x13⟩ := cells14 HM20.out; obtain ⟨y0, y1, y2, y3, y4, y5, y6, y7, y8, y9, y10, y11, y12, y13⟩ := cells14 U20.out.one))
      go_ret
      exact ⟨ret_bool (by simp), U21.out.below⟩
end Go.Proofs.YtcjnhemlkahgoaaDoor
