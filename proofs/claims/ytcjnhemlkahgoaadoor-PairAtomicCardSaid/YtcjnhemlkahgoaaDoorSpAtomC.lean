/-
  The walk of the law PairAtomic.
-/
import Derived.Test.YtcjnhemlkahgoaaDoorSpAtWords
import Derived.Test.YtcjnhemlkahgoaaDoorSpFactsTwo
set_option maxRecDepth 100000
namespace Go.Proofs.YtcjnhemlkahgoaaDoor
open Go.RowKit
set_option maxHeartbeats 32000000 in
theorem pairatomic_2 (a0 a1 a2 a3 a4 t0 t1 t2 t3 h0 h1 h2 h3 b0 b1 b2 b3 b4 u0 u1 u2 u3 g0 g1 g2 g3 x : Int) (y : Bool) (A A' : Option Addr) (n c n' c' : Nat) (l l' : List Sb.L) (w : World) (hs : SlIs A n c) (hs' : SlIs A' n' c') (hl : Hid (l.length = n ∧ Ls w w.heap.size A l)) (hl' : Hid (l'.length = n' ∧ Ls w w.heap.size A' l')) (ht : Hid (TabW w)) (hz : 0 < w.heap.size) (hsel : Hid (bits .and .i64 x 3 = 1 ∧ y = true)) :
    Calls Tryd.prog 6 #[.agg #[.int .i64 a0, .int .i64 a1, .int .i64 a2, .int .i64 a3, .int .i64 a4, .int .i64 t0, .int .i64 t1, .int .i64 t2, .int .i64 t3, .int .i64 h0, .int .i64 h1, .int .i64 h2, .int .i64 h3, .slice A n c, .int .i64 b0, .int .i64 b1, .int .i64 b2, .int .i64 b3, .int .i64 b4, .int .i64 u0, .int .i64 u1, .int .i64 u2, .int .i64 u3, .int .i64 g0, .int .i64 g1, .int .i64 g2, .int .i64 g3, .slice A' n' c', .int .i64 x, .bool y]] w fun r w' => r = .returned (.bool true) ∧ Below w.heap.size w w' := by
  obtain ⟨m, hm⟩ := min_is n 4
  obtain ⟨m', hm'⟩ := min_is n' 4
  have hm4 : m ≤ 4 := by unfold MinIs at hm; omega
  have hm4' : m' ≤ 4 := by unfold MinIs at hm'; omega
  have C1 := Lib.hid (fun W => sbshort_any a0 a1 a2 a3 a4 t0 t1 t2 t3 h0 h1 h2 h3 A n c m hs hm W)
  have C2 := Lib.hid (fun W => sbshort_any b0 b1 b2 b3 b4 u0 u1 u2 u3 g0 g1 g2 g3 A' n' c' m' hs' hm' W)
  obtain ⟨k1, k2⟩ := ls_take hl.out.1 hm hl.out.2
  obtain ⟨k1', k2'⟩ := ls_take hl'.out.1 hm' hl'.out.2
  have HL : Hid (∀ W, Below w.heap.size w W → Ls W w.heap.size A (l.take m)) := fun W hW => k2.below hW (Nat.le_refl _)
  have HL' : Hid (∀ W, Below w.heap.size w W → Ls W w.heap.size A' (l'.take m')) := fun W hW => k2'.below hW (Nat.le_refl _)
  have HK : Hid ((l.take m).length = m) := k1
  have HK' : Hid ((l'.take m').length = m') := k1'
  have HSL := Lib.hid (min_sl hs hm)
  have HSL' := Lib.hid (min_sl hs' hm')
  have HTB : Hid (∀ W, Below w.heap.size w W → TabW W ∧ 0 < W.heap.size) := fun W hW => dev_tab ht.out hz hW
  clear k1 k2 k1' k2' hl hl' hm hm' hs hs' ht hz
  generalize l.take m = l at *
  generalize l'.take m' = l' at *
  have AW : Hid (∀ W, Below w.heap.size w W → Calls Tryd.prog 15 #[] W fun r w' => r = .returned (.bool true) ∧ Below W.heap.size W w') := fun W hW => spawake_any W (HTB.out W hW).1 (HTB.out W hW).2
  have QV : Hid (∀ W, Below w.heap.size w W → Calls Tryd.prog 19 #[.agg #[.int .i64 a0, .int .i64 a1, .int .i64 a2, .int .i64 a3, .int .i64 a4, .int .i64 t0, .int .i64 t1, .int .i64 t2, .int .i64 t3, .int .i64 h0, .int .i64 h1, .int .i64 h2, .int .i64 h3, .slice A m c]] W fun r w' => r = .returned (.bool (decide (Sb.valid ⟨a0, a1, a2, a3, a4, ⟨t0, t1, t2, t3⟩, ⟨h0, h1, h2, h3⟩, l⟩))) ∧ Below W.heap.size W w') := fun W hW => refsbvalid_any a0 a1 a2 a3 a4 t0 t1 t2 t3 h0 h1 h2 h3 A w.heap.size m c l W hW.size HK.out (HL.out W hW)
  have QT : Hid (∀ W, Below w.heap.size w W → Calls Tryd.prog 19 #[.agg #[.int .i64 (a0 + 1), .int .i64 b1, .int .i64 b2, .int .i64 b3, .int .i64 b4, .int .i64 u0, .int .i64 u1, .int .i64 u2, .int .i64 u3, .int .i64 g0, .int .i64 g1, .int .i64 g2, .int .i64 g3, .slice A' m' c']] W fun r w' => r = .returned (.bool (decide (Sb.valid ⟨a0 + 1, b1, b2, b3, b4, ⟨u0, u1, u2, u3⟩, ⟨g0, g1, g2, g3⟩, l'⟩))) ∧ Below W.heap.size W w') := fun W hW => refsbvalid_any (a0 + 1) b1 b2 b3 b4 u0 u1 u2 u3 g0 g1 g2 g3 A' w.heap.size m' c' l' W hW.size HK'.out (HL'.out W hW)
  have P1 : Hid (∀ W g cb mb fs, Below w.heap.size w W → Dev W g cb mb 3 fs → fs.wr < 4611686018427387904 → Calls Tryd.prog 18 #[.pointer (some ⟨g, 0, none⟩), .agg #[.int .i64 a0, .int .i64 a1, .int .i64 a2, .int .i64 a3, .int .i64 a4, .int .i64 t0, .int .i64 t1, .int .i64 t2, .int .i64 t3, .int .i64 h0, .int .i64 h1, .int .i64 h2, .int .i64 h3, .slice A m c]] W (WriteDid W g cb mb 3 (fs.pub 3 ⟨a0, a1, a2, a3, a4, ⟨t0, t1, t2, t3⟩, ⟨h0, h1, h2, h3⟩, l⟩) (fs.pubErr 3 ⟨a0, a1, a2, a3, a4, ⟨t0, t1, t2, t3⟩, ⟨h0, h1, h2, h3⟩, l⟩))) := fun W g cb mb fs hW hd hwr => publish_any a0 a1 a2 a3 a4 t0 t1 t2 t3 h0 h1 h2 h3 A m c l g cb mb 3 fs W HSL.out HK.out ((HL.out W hW).more hW.size) (HTB.out W hW).1 (HTB.out W hW).2 hd hwr
  have P2 : Hid (∀ W g cb mb fs, Below w.heap.size w W → Dev W g cb mb 3 fs → fs.wr < 4611686018427387904 → Calls Tryd.prog 18 #[.pointer (some ⟨g, 0, none⟩), .agg #[.int .i64 (a0 + 1), .int .i64 b1, .int .i64 b2, .int .i64 b3, .int .i64 b4, .int .i64 u0, .int .i64 u1, .int .i64 u2, .int .i64 u3, .int .i64 g0, .int .i64 g1, .int .i64 g2, .int .i64 g3, .slice A' m' c']] W (WriteDid W g cb mb 3 (fs.pub 3 ⟨a0 + 1, b1, b2, b3, b4, ⟨u0, u1, u2, u3⟩, ⟨g0, g1, g2, g3⟩, l'⟩) (fs.pubErr 3 ⟨a0 + 1, b1, b2, b3, b4, ⟨u0, u1, u2, u3⟩, ⟨g0, g1, g2, g3⟩, l'⟩))) := fun W g cb mb fs hW hd hwr => publish_any (a0 + 1) b1 b2 b3 b4 u0 u1 u2 u3 g0 g1 g2 g3 A' m' c' l' g cb mb 3 fs W HSL'.out HK'.out ((HL'.out W hW).more hW.size) (HTB.out W hW).1 (HTB.out W hW).2 hd hwr
  have HLO : Hid (∀ W g cb mb fs, Below w.heap.size w W → Dev W g cb mb 3 fs → fs.dead = false → Calls Tryd.prog 14 #[.pointer (some ⟨g, 0, none⟩)] W (GotS W ((Sp.newest (sec fs.cur 0) (sec fs.cur 1)).getD Sb.S0) (Sp.newest (sec fs.cur 0) (sec fs.cur 1)).isSome)) := fun W g cb mb fs hW hd h0 => (spload_any g cb mb 3 fs W (by decide) h0 (HTB.out W hW).1 (HTB.out W hW).2 hd).mono fun r w' h => gots_load h
  have E1 : Hid (∀ (u : Sb.S) W B n9 c9, u.f.length ≤ 4 → Below w.heap.size w W → SbAt W W.heap.size u B n9 c9 → Calls Tryd.prog 10 #[.agg #[.int .i64 u.gen, .int .i64 u.phase, .int .i64 u.mig, .int .i64 u.tail, .int .i64 u.now, .int .i64 u.t.id, .int .i64 u.t.ver, .int .i64 u.t.rs, .int .i64 u.t.reg, .int .i64 u.h.id, .int .i64 u.h.ver, .int .i64 u.h.rs, .int .i64 u.h.reg, .slice B n9 c9], .agg #[.int .i64 a0, .int .i64 a1, .int .i64 a2, .int .i64 a3, .int .i64 a4, .int .i64 t0, .int .i64 t1, .int .i64 t2, .int .i64 t3, .int .i64 h0, .int .i64 h1, .int .i64 h2, .int .i64 h3, .slice A m c]] W fun r w' => r = .returned (.bool (Sb.same u ⟨a0, a1, a2, a3, a4, ⟨t0, t1, t2, t3⟩, ⟨h0, h1, h2, h3⟩, l⟩)) ∧ Below W.heap.size W w') := fun u W B n9 c9 hu hW h9 => refeq_sb u ⟨a0, a1, a2, a3, a4, ⟨t0, t1, t2, t3⟩, ⟨h0, h1, h2, h3⟩, l⟩ hu (by rw [HK.out]; exact hm4) B A n9 c9 m c W h9 ⟨HSL.out, HK.out, (HL.out W hW).more hW.size⟩
  have E2 : Hid (∀ (u : Sb.S) W B n9 c9, u.f.length ≤ 4 → Below w.heap.size w W → SbAt W W.heap.size u B n9 c9 → Calls Tryd.prog 10 #[.agg #[.int .i64 u.gen, .int .i64 u.phase, .int .i64 u.mig, .int .i64 u.tail, .int .i64 u.now, .int .i64 u.t.id, .int .i64 u.t.ver, .int .i64 u.t.rs, .int .i64 u.t.reg, .int .i64 u.h.id, .int .i64 u.h.ver, .int .i64 u.h.rs, .int .i64 u.h.reg, .slice B n9 c9], .agg #[.int .i64 (a0 + 1), .int .i64 b1, .int .i64 b2, .int .i64 b3, .int .i64 b4, .int .i64 u0, .int .i64 u1, .int .i64 u2, .int .i64 u3, .int .i64 g0, .int .i64 g1, .int .i64 g2, .int .i64 g3, .slice A' m' c']] W fun r w' => r = .returned (.bool (Sb.same u ⟨a0 + 1, b1, b2, b3, b4, ⟨u0, u1, u2, u3⟩, ⟨g0, g1, g2, g3⟩, l'⟩)) ∧ Below W.heap.size W w') := fun u W B n9 c9 hu hW h9 => refeq_sb u ⟨a0 + 1, b1, b2, b3, b4, ⟨u0, u1, u2, u3⟩, ⟨g0, g1, g2, g3⟩, l'⟩ hu (by rw [HK'.out]; exact hm4') B A' n9 c9 m' c' W h9 ⟨HSL'.out, HK'.out, (HL'.out W hW).more hW.size⟩
  have HK4 : Hid (l.length ≤ 4 ∧ l'.length ≤ 4) := ⟨by rw [HK.out]; exact hm4, by rw [HK'.out]; exact hm4'⟩
  have HS0 := Lib.hid (sd_new w #[.int .i64 a0, .int .i64 a1, .int .i64 a2, .int .i64 a3, .int .i64 a4, .int .i64 t0, .int .i64 t1, .int .i64 t2, .int .i64 t3, .int .i64 h0, .int .i64 h1, .int .i64 h2, .int .i64 h3, .slice A n c, .int .i64 b0, .int .i64 b1, .int .i64 b2, .int .i64 b3, .int .i64 b4, .int .i64 u0, .int .i64 u1, .int .i64 u2, .int .i64 u3, .int .i64 g0, .int .i64 g1, .int .i64 g2, .int .i64 g3, .slice A' n' c', .int .i64 x, .bool y] 49)
  clear HL HL' HK HK' HSL HSL' HTB hm4 hm4'
  go_enter Tryd.func6, Tryd.ntmps6
  go_upto_region 1 with fail
  generalize w.alloc (.cells #[.int .i64 a0, .int .i64 a1, .int .i64 a2, .int .i64 a3, .int .i64 a4, .int .i64 t0, .int .i64 t1, .int .i64 t2, .int .i64 t3, .int .i64 h0, .int .i64 h1, .int .i64 h2, .int .i64 h3, .slice A n c, .int .i64 b0, .int .i64 b1, .int .i64 b2, .int .i64 b3, .int .i64 b4, .int .i64 u0, .int .i64 u1, .int .i64 u2, .int .i64 u3, .int .i64 g0, .int .i64 g1, .int .i64 g2, .int .i64 g3, .slice A' n' c', .int .i64 x, .bool y] 49) = w0 at *
  go_cut [3, 4, 5, 6] (fun s3 s4 s5 s6 wx => ∃ p3 p4, s3 = .pointer (some ⟨p3, 0, none⟩) ∧ s4 = .pointer (some ⟨p4, 0, none⟩) ∧ s5 = .int .i64 x ∧ s6 = .bool y ∧ Hid (TwoBox w p3 p4 (.cells #[.int .i64 a0, .int .i64 a1, .int .i64 a2, .int .i64 a3, .int .i64 a4, .int .i64 t0, .int .i64 t1, .int .i64 t2, .int .i64 t3, .int .i64 h0, .int .i64 h1, .int .i64 h2, .int .i64 h3, .slice A m c] 27 (0, 0)) (.cells #[.int .i64 b0, .int .i64 b1, .int .i64 b2, .int .i64 b3, .int .i64 b4, .int .i64 u0, .int .i64 u1, .int .i64 u2, .int .i64 u3, .int .i64 g0, .int .i64 g1, .int .i64 g2, .int .i64 g3, .slice A' m' c'] 27 (0, 0)) wx))
  case first =>
    have HX1 : Hid (w0.drew.heap[w.heap.size]? = some (.cells #[.int .i64 a0, .int .i64 a1, .int .i64 a2, .int .i64 a3, .int .i64 a4, .int .i64 t0, .int .i64 t1, .int .i64 t2, .int .i64 t3, .int .i64 h0, .int .i64 h1, .int .i64 h2, .int .i64 h3, .slice A n c, .int .i64 b0, .int .i64 b1, .int .i64 b2, .int .i64 b3, .int .i64 b4, .int .i64 u0, .int .i64 u1, .int .i64 u2, .int .i64 u3, .int .i64 g0, .int .i64 g1, .int .i64 g2, .int .i64 g3, .slice A' n' c', .int .i64 x, .bool y] 49 (0, 0))) := HS0.out.1
    have HW1 : Hid (Below w.heap.size w w0.drew) := HS0.out.2.drew
    have HLT0 : w.heap.size < w0.drew.heap.size := box_lt HX1.out
    clear AW QV QT P1 P2 HLO E1 E2 HS0
    refine wp_region_held_drew (S := fun W => W.heap[w.heap.size]? = some (.cells #[.int .i64 a0, .int .i64 a1, .int .i64 a2, .int .i64 a3, .int .i64 a4, .int .i64 t0, .int .i64 t1, .int .i64 t2, .int .i64 t3, .int .i64 h0, .int .i64 h1, .int .i64 h2, .int .i64 h3, .slice A n c, .int .i64 b0, .int .i64 b1, .int .i64 b2, .int .i64 b3, .int .i64 b4, .int .i64 u0, .int .i64 u1, .int .i64 u2, .int .i64 u3, .int .i64 g0, .int .i64 g1, .int .i64 g2, .int .i64 g3, .slice A' n' c', .int .i64 x, .bool y] 49 (0, 0))) (by kernel_rfl) HX1.out (fun hH => ?_)
    change wpAnyH _ _ _ _ _ 16 #[false, false, false, false, false, false, false, false, false, false, false, false, false, false, false, false] _ _
    refine held_take (i := 0) (v := ?_) (d := some 11) rfl rfl (by kernel_rfl) (by kernel_rfl) (by kernel_rfl) (fun _ _ _ h => h) hH ⟨?_, fun W hSw => ?_⟩ ?_
    rotate_left 1
    · rfl
    · (go_simp; all_goals with_reducible rfl)
    simp only [Act.put, List.setIfInBounds_toArray, List.set_cons_zero, List.set_cons_succ]
    refine held_take (i := 1) (v := ?_) (d := some 12) rfl rfl (by kernel_rfl) (by kernel_rfl) (by kernel_rfl) (fun _ _ _ h => h) hH ⟨?_, fun W hSw => ?_⟩ ?_
    rotate_left 1
    · rfl
    · obtain ⟨z0, z1, z2, z3, z4, z5, z6, z7, z8, z9, z10, z11, z12, z13, z14, z15, z16, z17, z18, z19, z20, z21, z22, z23, z24, z25, z26, z27, z28, z29⟩ := cells30 hSw
      (go_simp; all_goals with_reducible rfl)
    simp only [Act.put, List.setIfInBounds_toArray, List.set_cons_zero, List.set_cons_succ]
    refine held_take (i := 3) (v := ?_) (d := some 14) rfl rfl (by kernel_rfl) (by kernel_rfl) (by kernel_rfl) (fun _ _ _ h => h) hH ⟨?_, fun W hSw => ?_⟩ ?_
    rotate_left 1
    · rfl
    · (go_simp; all_goals with_reducible rfl)
    simp only [Act.put, List.setIfInBounds_toArray, List.set_cons_zero, List.set_cons_succ]
    refine held_take (i := 4) (v := ?_) (d := some 15) rfl rfl (by kernel_rfl) (by kernel_rfl) (by kernel_rfl) (fun _ _ _ h => h) hH ⟨?_, fun W hSw => ?_⟩ ?_
    rotate_left 1
    · rfl
    · obtain ⟨z0, z1, z2, z3, z4, z5, z6, z7, z8, z9, z10, z11, z12, z13, z14, z15, z16, z17, z18, z19, z20, z21, z22, z23, z24, z25, z26, z27, z28, z29⟩ := cells30 hSw
      (go_simp; all_goals with_reducible rfl)
    simp only [Act.put, List.setIfInBounds_toArray, List.set_cons_zero, List.set_cons_succ]
    refine held_take (i := 6) (v := ?_) (d := some 17) rfl rfl (by kernel_rfl) (by kernel_rfl) (by kernel_rfl) (fun _ _ _ h => h) hH ⟨?_, fun W hSw => ?_⟩ ?_
    rotate_left 1
    · rfl
    · (go_simp; all_goals with_reducible rfl)
    simp only [Act.put, List.setIfInBounds_toArray, List.set_cons_zero, List.set_cons_succ]
    refine held_take (i := 7) (v := ?_) (d := some 18) rfl rfl (by kernel_rfl) (by kernel_rfl) (by kernel_rfl) (fun _ _ _ h => h) hH ⟨?_, fun W hSw => ?_⟩ ?_
    rotate_left 1
    · rfl
    · obtain ⟨z0, z1, z2, z3, z4, z5, z6, z7, z8, z9, z10, z11, z12, z13, z14, z15, z16, z17, z18, z19, z20, z21, z22, z23, z24, z25, z26, z27, z28, z29⟩ := cells30 hSw
      (go_simp; all_goals with_reducible rfl)
    simp only [Act.put, List.setIfInBounds_toArray, List.set_cons_zero, List.set_cons_succ]
    refine held_take (i := 8) (v := ?_) (d := some 19) rfl rfl (by kernel_rfl) (by kernel_rfl) (by kernel_rfl) (fun _ _ _ h => h) hH ⟨?_, fun W hSw => ?_⟩ ?_
    rotate_left 1
    · rfl
    · (go_simp; all_goals with_reducible rfl)
    simp only [Act.put, List.setIfInBounds_toArray, List.set_cons_zero, List.set_cons_succ]
    refine held_take (i := 9) (v := ?_) (d := some 20) rfl rfl (by kernel_rfl) (by kernel_rfl) (by kernel_rfl) (fun _ _ _ h => h) hH ⟨?_, fun W hSw => ?_⟩ ?_
    rotate_left 1
    · rfl
    · obtain ⟨z0, z1, z2, z3, z4, z5, z6, z7, z8, z9, z10, z11, z12, z13, z14, z15, z16, z17, z18, z19, z20, z21, z22, z23, z24, z25, z26, z27, z28, z29⟩ := cells30 hSw
      (go_simp; all_goals with_reducible rfl)
    simp only [Act.put, List.setIfInBounds_toArray, List.set_cons_zero, List.set_cons_succ]
    refine held_meet (nT := 4) (lsT := #[true, true, true, true, true, true, true, true, true, true, true, true, false, false, false, false]) (fun b W => W.heap[w.heap.size]? = some (.cells #[.int .i64 a0, .int .i64 a1, .int .i64 a2, .int .i64 a3, .int .i64 a4, .int .i64 t0, .int .i64 t1, .int .i64 t2, .int .i64 t3, .int .i64 h0, .int .i64 h1, .int .i64 h2, .int .i64 h3, .slice A n c, .int .i64 b0, .int .i64 b1, .int .i64 b2, .int .i64 b3, .int .i64 b4, .int .i64 u0, .int .i64 u1, .int .i64 u2, .int .i64 u3, .int .i64 g0, .int .i64 g1, .int .i64 g2, .int .i64 g3, .slice A' n' c', .int .i64 x, .bool y] 49 (0, 0)) ∧ ∃ p3 p4, b = ⟨#[.agg #[.int .i64 a0, .int .i64 a1, .int .i64 a2, .int .i64 a3, .int .i64 a4, .int .i64 t0, .int .i64 t1, .int .i64 t2, .int .i64 t3, .int .i64 h0, .int .i64 h1, .int .i64 h2, .int .i64 h3, .slice A n c, .int .i64 b0, .int .i64 b1, .int .i64 b2, .int .i64 b3, .int .i64 b4, .int .i64 u0, .int .i64 u1, .int .i64 u2, .int .i64 u3, .int .i64 g0, .int .i64 g1, .int .i64 g2, .int .i64 g3, .slice A' n' c', .int .i64 x, .bool y], .pointer (some ⟨w.heap.size, 0, none⟩), .bool false, .pointer (some ⟨p3, 0, none⟩), .pointer (some ⟨p4, 0, none⟩), undef, undef, undef, undef, undef, undef, .pointer (some ⟨w.heap.size, 0, none⟩), .agg #[.int .i64 a0, .int .i64 a1, .int .i64 a2, .int .i64 a3, .int .i64 a4, .int .i64 t0, .int .i64 t1, .int .i64 t2, .int .i64 t3, .int .i64 h0, .int .i64 h1, .int .i64 h2, .int .i64 h3, .slice A n c], .agg #[.int .i64 a0, .int .i64 a1, .int .i64 a2, .int .i64 a3, .int .i64 a4, .int .i64 t0, .int .i64 t1, .int .i64 t2, .int .i64 t3, .int .i64 h0, .int .i64 h1, .int .i64 h2, .int .i64 h3, .slice A m c], .pointer (some ⟨w.heap.size, 14, none⟩), .agg #[.int .i64 b0, .int .i64 b1, .int .i64 b2, .int .i64 b3, .int .i64 b4, .int .i64 u0, .int .i64 u1, .int .i64 u2, .int .i64 u3, .int .i64 g0, .int .i64 g1, .int .i64 g2, .int .i64 g3, .slice A' n' c'], .agg #[.int .i64 b0, .int .i64 b1, .int .i64 b2, .int .i64 b3, .int .i64 b4, .int .i64 u0, .int .i64 u1, .int .i64 u2, .int .i64 u3, .int .i64 g0, .int .i64 g1, .int .i64 g2, .int .i64 g3, .slice A' m' c'], .pointer (some ⟨w.heap.size, 28, none⟩), .int .i64 x, .pointer (some ⟨w.heap.size, 29, none⟩), .bool y, undef, undef, undef, undef, undef, undef, undef, undef, undef, undef, undef, undef, undef, undef, undef, undef, undef, undef, undef, undef, undef, undef, undef, undef, undef, undef, undef, undef, undef, undef, undef, undef, undef, undef, undef, undef, undef, undef, undef, undef, undef, undef, undef, undef, undef, undef, undef, undef, undef, undef, undef, undef, undef, undef, undef, undef, undef, undef, undef, undef, undef, undef, undef, undef, undef, undef, undef, undef, undef], []⟩ ∧ Hid (TwoBox w p3 p4 (.cells #[.int .i64 0, .int .i64 0, .int .i64 0, .int .i64 0, .int .i64 0, .int .i64 0, .int .i64 0, .int .i64 0, .int .i64 0, .int .i64 0, .int .i64 0, .int .i64 0, .int .i64 0, .slice none 0 0] 27 (0, 0)) (.cells #[.int .i64 0, .int .i64 0, .int .i64 0, .int .i64 0, .int .i64 0, .int .i64 0, .int .i64 0, .int .i64 0, .int .i64 0, .int .i64 0, .int .i64 0, .int .i64 0, .int .i64 0, .slice none 0 0] 27 (0, 0)) W)) (fun b W hR => ?_) (fun hT => ?_)
    · obtain ⟨hS, p3, p4, rfl, HT⟩ := hR
      clear hH C1 C2 HX1 HW1 HLT0
      have HL3 := Lib.hid (two_laid (e0 := .int .i64 a0) (e1 := .int .i64 a1) (e2 := .int .i64 a2) (e3 := .int .i64 a3) (e4 := .int .i64 a4) (e5 := .int .i64 t0) (e6 := .int .i64 t1) (e7 := .int .i64 t2) (e8 := .int .i64 t3) (e9 := .int .i64 h0) (e10 := .int .i64 h1) (e11 := .int .i64 h2) (e12 := .int .i64 h3) (e13 := .slice A m c) (h0 := .int .i64 b0) (h1 := .int .i64 b1) (h2 := .int .i64 b2) (h3 := .int .i64 b3) (h4 := .int .i64 b4) (h5 := .int .i64 u0) (h6 := .int .i64 u1) (h7 := .int .i64 u2) (h8 := .int .i64 u3) (h9 := .int .i64 g0) (h10 := .int .i64 g1) (h11 := .int .i64 g2) (h12 := .int .i64 g3) (h13 := .slice A' m' c') HT.out)
      have HB1 : Hid (w.heap.size < p3 ∧ w.heap.size < p4) := ⟨Nat.lt_of_le_of_ne HT.out.2.2.2.1 (fun e => by have := HT.out.1; rw [← e, hS] at this; cases this), Nat.lt_of_le_of_ne HT.out.2.2.2.2.1 (fun e => by have := HT.out.2.1; rw [← e, hS] at this; cases this)⟩
      obtain ⟨x0, x1, x2, x3, x4, x5, x6, x7, x8, x9, x10, x11, x12, x13⟩ := cells14 HT.out.one
      obtain ⟨fz0, fz1, fz2, fz3, fz4, fz5, fz6, fz7, fz8, fz9, fz10, fz11, fz12, fz13⟩ := frozen14 HT.out.one
      refine held_step (i := 12) rfl (by kernel_rfl) (by rfl) (fun K hK => ?_)
      go_simp
      refine hK _ _ (((stored14_grown W p3 (.int .i64 a0) (.int .i64 a1) (.int .i64 a2) (.int .i64 a3) (.int .i64 a4) (.int .i64 t0) (.int .i64 t1) (.int .i64 t2) (.int .i64 t3) (.int .i64 h0) (.int .i64 h1) (.int .i64 h2) (.int .i64 h3) (.slice A m c)).block _ (box_lt hS) (fun e => by injection e with e; have := HB1.out.1; omega)).trans hS) ?_
      clear hK K
      simp only [List.setIfInBounds_toArray, List.set_cons_zero, List.set_cons_succ]
      have hS2 := ((stored14_grown W p3 (.int .i64 a0) (.int .i64 a1) (.int .i64 a2) (.int .i64 a3) (.int .i64 a4) (.int .i64 t0) (.int .i64 t1) (.int .i64 t2) (.int .i64 t3) (.int .i64 h0) (.int .i64 h1) (.int .i64 h2) (.int .i64 h3) (.slice A m c)).block _ (box_lt hS) (fun e => by injection e with e; have := HB1.out.1; omega)).trans hS
      have HN4 : Hid (((((((((((((((W.setCell ⟨p3, 0, none⟩ (.int .i64 a0)).setCell ⟨p3, 1, none⟩ (.int .i64 a1)).setCell ⟨p3, 2, none⟩ (.int .i64 a2)).setCell ⟨p3, 3, none⟩ (.int .i64 a3)).setCell ⟨p3, 4, none⟩ (.int .i64 a4)).setCell ⟨p3, 5, none⟩ (.int .i64 t0)).setCell ⟨p3, 6, none⟩ (.int .i64 t1)).setCell ⟨p3, 7, none⟩ (.int .i64 t2)).setCell ⟨p3, 8, none⟩ (.int .i64 t3)).setCell ⟨p3, 9, none⟩ (.int .i64 h0)).setCell ⟨p3, 10, none⟩ (.int .i64 h1)).setCell ⟨p3, 11, none⟩ (.int .i64 h2)).setCell ⟨p3, 12, none⟩ (.int .i64 h3)).setCell ⟨p3, 13, none⟩ (.slice A m c)).heap[p4]? = some (.cells #[.int .i64 0, .int .i64 0, .int .i64 0, .int .i64 0, .int .i64 0, .int .i64 0, .int .i64 0, .int .i64 0, .int .i64 0, .int .i64 0, .int .i64 0, .int .i64 0, .int .i64 0, .slice none 0 0] 27 (0, 0))) := ((stored14_grown W p3 (.int .i64 a0) (.int .i64 a1) (.int .i64 a2) (.int .i64 a3) (.int .i64 a4) (.int .i64 t0) (.int .i64 t1) (.int .i64 t2) (.int .i64 t3) (.int .i64 h0) (.int .i64 h1) (.int .i64 h2) (.int .i64 h3) (.slice A m c)).block _ (box_lt HT.out.two) (fun e => by injection e with e; exact HT.out.2.2.1 e.symm)).trans HT.out.two
      generalize ((((((((((((((W.setCell ⟨p3, 0, none⟩ (.int .i64 a0)).setCell ⟨p3, 1, none⟩ (.int .i64 a1)).setCell ⟨p3, 2, none⟩ (.int .i64 a2)).setCell ⟨p3, 3, none⟩ (.int .i64 a3)).setCell ⟨p3, 4, none⟩ (.int .i64 a4)).setCell ⟨p3, 5, none⟩ (.int .i64 t0)).setCell ⟨p3, 6, none⟩ (.int .i64 t1)).setCell ⟨p3, 7, none⟩ (.int .i64 t2)).setCell ⟨p3, 8, none⟩ (.int .i64 t3)).setCell ⟨p3, 9, none⟩ (.int .i64 h0)).setCell ⟨p3, 10, none⟩ (.int .i64 h1)).setCell ⟨p3, 11, none⟩ (.int .i64 h2)).setCell ⟨p3, 12, none⟩ (.int .i64 h3)).setCell ⟨p3, 13, none⟩ (.slice A m c)) = W1 at *
      obtain ⟨y0, y1, y2, y3, y4, y5, y6, y7, y8, y9, y10, y11, y12, y13⟩ := cells14 HN4.out
      obtain ⟨gz0, gz1, gz2, gz3, gz4, gz5, gz6, gz7, gz8, gz9, gz10, gz11, gz12, gz13⟩ := frozen14 HN4.out
      refine held_step (i := 13) rfl (by kernel_rfl) (by rfl) (fun K hK => ?_)
      go_simp
      refine hK _ _ (((stored14_grown W1 p4 (.int .i64 b0) (.int .i64 b1) (.int .i64 b2) (.int .i64 b3) (.int .i64 b4) (.int .i64 u0) (.int .i64 u1) (.int .i64 u2) (.int .i64 u3) (.int .i64 g0) (.int .i64 g1) (.int .i64 g2) (.int .i64 g3) (.slice A' m' c')).block _ (box_lt hS2) (fun e => by injection e with e; have := HB1.out.2; omega)).trans hS2) ?_
      clear hK K
      simp only [List.setIfInBounds_toArray, List.set_cons_zero, List.set_cons_succ]
      have hS3 := ((stored14_grown W1 p4 (.int .i64 b0) (.int .i64 b1) (.int .i64 b2) (.int .i64 b3) (.int .i64 b4) (.int .i64 u0) (.int .i64 u1) (.int .i64 u2) (.int .i64 u3) (.int .i64 g0) (.int .i64 g1) (.int .i64 g2) (.int .i64 g3) (.slice A' m' c')).block _ (box_lt hS2) (fun e => by injection e with e; have := HB1.out.2; omega)).trans hS2
      generalize ((((((((((((((W1.setCell ⟨p4, 0, none⟩ (.int .i64 b0)).setCell ⟨p4, 1, none⟩ (.int .i64 b1)).setCell ⟨p4, 2, none⟩ (.int .i64 b2)).setCell ⟨p4, 3, none⟩ (.int .i64 b3)).setCell ⟨p4, 4, none⟩ (.int .i64 b4)).setCell ⟨p4, 5, none⟩ (.int .i64 u0)).setCell ⟨p4, 6, none⟩ (.int .i64 u1)).setCell ⟨p4, 7, none⟩ (.int .i64 u2)).setCell ⟨p4, 8, none⟩ (.int .i64 u3)).setCell ⟨p4, 9, none⟩ (.int .i64 g0)).setCell ⟨p4, 10, none⟩ (.int .i64 g1)).setCell ⟨p4, 11, none⟩ (.int .i64 g2)).setCell ⟨p4, 12, none⟩ (.int .i64 g3)).setCell ⟨p4, 13, none⟩ (.slice A' m' c')) = W2 at *
      refine held_step (i := 14) rfl (by kernel_rfl) (by rfl) (fun K hK => ?_)
      go_simp
      refine hK _ _ hS3 ?_
      clear hK K
      simp only [List.setIfInBounds_toArray, List.set_cons_zero, List.set_cons_succ]
      refine held_step (i := 15) rfl (by kernel_rfl) (by rfl) (fun K hK => ?_)
      go_simp
      refine hK _ _ hS3 ?_
      clear hK K
      simp only [List.setIfInBounds_toArray, List.set_cons_zero, List.set_cons_succ]
      refine wpAnyH_done (by kernel_rfl) ?_ _
      (try go_wp2_with fail)
      go_meet
      exact ⟨p3, p4, rfl, rfl, rfl, rfl, HL3⟩
    · refine held_three (i := 2) (j := 10) (k := 11) rfl rfl rfl (by kernel_rfl) (by rfl) (by rfl) (by rfl) (fun K hK => ?_) (fun K hK => ?_) (fun K hK => ?_)
      · go_simp
        refine (C1.out _).mono ?_
        rintro r v1 ⟨rfl, ha1⟩
        have hS1 := box_on hH ha1
        refine hK _ _ hS1 ?_
        clear hK K
        simp only [List.setIfInBounds_toArray, List.set_cons_zero, List.set_cons_succ]
        refine held_three (i := 5) (j := 10) (k := 11) rfl rfl rfl (by kernel_rfl) (by rfl) (by rfl) (by rfl) (fun K hK => ?_) (fun K hK => ?_) (fun K hK => ?_)
        · go_simp
          refine (C2.out _).mono ?_
          rintro r v2 ⟨rfl, ha2⟩
          have hS2 := box_on hS1 ha2
          refine hK _ _ hS2 ?_
          clear hK K
          simp only [List.setIfInBounds_toArray, List.set_cons_zero, List.set_cons_succ]
          refine held_two (i := 10) (j := 11) rfl rfl (by kernel_rfl) (by rfl) (by rfl) (fun K hK => ?_) (fun K hK => ?_)
          · go_simp
            have hS3 := box_made hS2 (.cells #[.int .i64 0, .int .i64 0, .int .i64 0, .int .i64 0, .int .i64 0, .int .i64 0, .int .i64 0, .int .i64 0, .int .i64 0, .int .i64 0, .int .i64 0, .int .i64 0, .int .i64 0, .slice none 0 0] 27)
            refine hK _ _ hS3 ?_
            clear hK K
            simp only [List.setIfInBounds_toArray, List.set_cons_zero, List.set_cons_succ]
            refine held_step (i := 11) rfl (by kernel_rfl) (by rfl) (fun K hK => ?_)
            go_simp
            have hS4 := box_made hS3 (.cells #[.int .i64 0, .int .i64 0, .int .i64 0, .int .i64 0, .int .i64 0, .int .i64 0, .int .i64 0, .int .i64 0, .int .i64 0, .int .i64 0, .int .i64 0, .int .i64 0, .int .i64 0, .slice none 0 0] 27)
            refine hK _ _ hS4 ?_
            clear hK K
            simp only [List.setIfInBounds_toArray, List.set_cons_zero, List.set_cons_succ]
            exact hT _ _ ⟨hS4, _, _, rfl, (two_made1 ((HW1.out.trans (ha1.mono HW1.out.size)).trans (ha2.mono (HW1.out.trans (ha1.mono HW1.out.size)).size)) (Below.refl _ _) (fun X => heap_alloc_new X _)).1⟩
          · go_simp
            have hS5 := box_made hS2 (.cells #[.int .i64 0, .int .i64 0, .int .i64 0, .int .i64 0, .int .i64 0, .int .i64 0, .int .i64 0, .int .i64 0, .int .i64 0, .int .i64 0, .int .i64 0, .int .i64 0, .int .i64 0, .slice none 0 0] 27)
            refine hK _ _ hS5 ?_
            clear hK K
            simp only [List.setIfInBounds_toArray, List.set_cons_zero, List.set_cons_succ]
            refine held_step (i := 10) rfl (by kernel_rfl) (by rfl) (fun K hK => ?_)
            go_simp
            have hS6 := box_made hS5 (.cells #[.int .i64 0, .int .i64 0, .int .i64 0, .int .i64 0, .int .i64 0, .int .i64 0, .int .i64 0, .int .i64 0, .int .i64 0, .int .i64 0, .int .i64 0, .int .i64 0, .int .i64 0, .slice none 0 0] 27)
            refine hK _ _ hS6 ?_
            clear hK K
            simp only [List.setIfInBounds_toArray, List.set_cons_zero, List.set_cons_succ]
            exact hT _ _ ⟨hS6, _, _, rfl, (two_made1 ((HW1.out.trans (ha1.mono HW1.out.size)).trans (ha2.mono (HW1.out.trans (ha1.mono HW1.out.size)).size)) (Below.refl _ _) (fun X => heap_alloc_new X _)).2⟩
        · go_simp
          have hS7 := box_made hS1 (.cells #[.int .i64 0, .int .i64 0, .int .i64 0, .int .i64 0, .int .i64 0, .int .i64 0, .int .i64 0, .int .i64 0, .int .i64 0, .int .i64 0, .int .i64 0, .int .i64 0, .int .i64 0, .slice none 0 0] 27)
          refine hK _ _ hS7 ?_
          clear hK K
          simp only [List.setIfInBounds_toArray, List.set_cons_zero, List.set_cons_succ]
          refine held_two (i := 5) (j := 11) rfl rfl (by kernel_rfl) (by rfl) (by rfl) (fun K hK => ?_) (fun K hK => ?_)
          · go_simp
            refine (C2.out _).mono ?_
            rintro r v8 ⟨rfl, ha8⟩
            have hS8 := box_on hS7 ha8
            refine hK _ _ hS8 ?_
            clear hK K
            simp only [List.setIfInBounds_toArray, List.set_cons_zero, List.set_cons_succ]
            refine held_step (i := 11) rfl (by kernel_rfl) (by rfl) (fun K hK => ?_)
            go_simp
            have hS9 := box_made hS8 (.cells #[.int .i64 0, .int .i64 0, .int .i64 0, .int .i64 0, .int .i64 0, .int .i64 0, .int .i64 0, .int .i64 0, .int .i64 0, .int .i64 0, .int .i64 0, .int .i64 0, .int .i64 0, .slice none 0 0] 27)
            refine hK _ _ hS9 ?_
            clear hK K
            simp only [List.setIfInBounds_toArray, List.set_cons_zero, List.set_cons_succ]
            exact hT _ _ ⟨hS9, _, _, rfl, (two_made (HW1.out.trans (ha1.mono HW1.out.size)) ha8 (Below.refl _ _) (fun X => heap_alloc_new X _)).1⟩
          · go_simp
            have hS10 := box_made hS7 (.cells #[.int .i64 0, .int .i64 0, .int .i64 0, .int .i64 0, .int .i64 0, .int .i64 0, .int .i64 0, .int .i64 0, .int .i64 0, .int .i64 0, .int .i64 0, .int .i64 0, .int .i64 0, .slice none 0 0] 27)
            refine hK _ _ hS10 ?_
            clear hK K
            simp only [List.setIfInBounds_toArray, List.set_cons_zero, List.set_cons_succ]
            refine held_step (i := 5) rfl (by kernel_rfl) (by rfl) (fun K hK => ?_)
            go_simp
            refine (C2.out _).mono ?_
            rintro r v11 ⟨rfl, ha11⟩
            have hS11 := box_on hS10 ha11
            refine hK _ _ hS11 ?_
            clear hK K
            simp only [List.setIfInBounds_toArray, List.set_cons_zero, List.set_cons_succ]
            exact hT _ _ ⟨hS11, _, _, rfl, (two_made1 (HW1.out.trans (ha1.mono HW1.out.size)) ha11 (fun X => heap_alloc_new X _)).1⟩
        · go_simp
          have hS12 := box_made hS1 (.cells #[.int .i64 0, .int .i64 0, .int .i64 0, .int .i64 0, .int .i64 0, .int .i64 0, .int .i64 0, .int .i64 0, .int .i64 0, .int .i64 0, .int .i64 0, .int .i64 0, .int .i64 0, .slice none 0 0] 27)
          refine hK _ _ hS12 ?_
          clear hK K
          simp only [List.setIfInBounds_toArray, List.set_cons_zero, List.set_cons_succ]
          refine held_two (i := 5) (j := 10) rfl rfl (by kernel_rfl) (by rfl) (by rfl) (fun K hK => ?_) (fun K hK => ?_)
          · go_simp
            refine (C2.out _).mono ?_
            rintro r v13 ⟨rfl, ha13⟩
            have hS13 := box_on hS12 ha13
            refine hK _ _ hS13 ?_
            clear hK K
            simp only [List.setIfInBounds_toArray, List.set_cons_zero, List.set_cons_succ]
            refine held_step (i := 10) rfl (by kernel_rfl) (by rfl) (fun K hK => ?_)
            go_simp
            have hS14 := box_made hS13 (.cells #[.int .i64 0, .int .i64 0, .int .i64 0, .int .i64 0, .int .i64 0, .int .i64 0, .int .i64 0, .int .i64 0, .int .i64 0, .int .i64 0, .int .i64 0, .int .i64 0, .int .i64 0, .slice none 0 0] 27)
            refine hK _ _ hS14 ?_
            clear hK K
            simp only [List.setIfInBounds_toArray, List.set_cons_zero, List.set_cons_succ]
            exact hT _ _ ⟨hS14, _, _, rfl, (two_made (HW1.out.trans (ha1.mono HW1.out.size)) ha13 (Below.refl _ _) (fun X => heap_alloc_new X _)).2⟩
          · go_simp
            have hS15 := box_made hS12 (.cells #[.int .i64 0, .int .i64 0, .int .i64 0, .int .i64 0, .int .i64 0, .int .i64 0, .int .i64 0, .int .i64 0, .int .i64 0, .int .i64 0, .int .i64 0, .int .i64 0, .int .i64 0, .slice none 0 0] 27)
            refine hK _ _ hS15 ?_
            clear hK K
            simp only [List.setIfInBounds_toArray, List.set_cons_zero, List.set_cons_succ]
            refine held_step (i := 5) rfl (by kernel_rfl) (by rfl) (fun K hK => ?_)
            go_simp
            refine (C2.out _).mono ?_
            rintro r v16 ⟨rfl, ha16⟩
            have hS16 := box_on hS15 ha16
            refine hK _ _ hS16 ?_
            clear hK K
            simp only [List.setIfInBounds_toArray, List.set_cons_zero, List.set_cons_succ]
            exact hT _ _ ⟨hS16, _, _, rfl, (two_made1 (HW1.out.trans (ha1.mono HW1.out.size)) ha16 (fun X => heap_alloc_new X _)).2⟩
      · go_simp
        have hS17 := box_made hH (.cells #[.int .i64 0, .int .i64 0, .int .i64 0, .int .i64 0, .int .i64 0, .int .i64 0, .int .i64 0, .int .i64 0, .int .i64 0, .int .i64 0, .int .i64 0, .int .i64 0, .int .i64 0, .slice none 0 0] 27)
        refine hK _ _ hS17 ?_
        clear hK K
        simp only [List.setIfInBounds_toArray, List.set_cons_zero, List.set_cons_succ]
        refine held_two (i := 2) (j := 11) rfl rfl (by kernel_rfl) (by rfl) (by rfl) (fun K hK => ?_) (fun K hK => ?_)
        · go_simp
          refine (C1.out _).mono ?_
          rintro r v18 ⟨rfl, ha18⟩
          have hS18 := box_on hS17 ha18
          refine hK _ _ hS18 ?_
          clear hK K
          simp only [List.setIfInBounds_toArray, List.set_cons_zero, List.set_cons_succ]
          refine held_two (i := 5) (j := 11) rfl rfl (by kernel_rfl) (by rfl) (by rfl) (fun K hK => ?_) (fun K hK => ?_)
          · go_simp
            refine (C2.out _).mono ?_
            rintro r v19 ⟨rfl, ha19⟩
            have hS19 := box_on hS18 ha19
            refine hK _ _ hS19 ?_
            clear hK K
            simp only [List.setIfInBounds_toArray, List.set_cons_zero, List.set_cons_succ]
            refine held_step (i := 11) rfl (by kernel_rfl) (by rfl) (fun K hK => ?_)
            go_simp
            have hS20 := box_made hS19 (.cells #[.int .i64 0, .int .i64 0, .int .i64 0, .int .i64 0, .int .i64 0, .int .i64 0, .int .i64 0, .int .i64 0, .int .i64 0, .int .i64 0, .int .i64 0, .int .i64 0, .int .i64 0, .slice none 0 0] 27)
            refine hK _ _ hS20 ?_
            clear hK K
            simp only [List.setIfInBounds_toArray, List.set_cons_zero, List.set_cons_succ]
            exact hT _ _ ⟨hS20, _, _, rfl, (two_made HW1.out (ha18.trans (ha19.mono ha18.size)) (Below.refl _ _) (fun X => heap_alloc_new X _)).1⟩
          · go_simp
            have hS21 := box_made hS18 (.cells #[.int .i64 0, .int .i64 0, .int .i64 0, .int .i64 0, .int .i64 0, .int .i64 0, .int .i64 0, .int .i64 0, .int .i64 0, .int .i64 0, .int .i64 0, .int .i64 0, .int .i64 0, .slice none 0 0] 27)
            refine hK _ _ hS21 ?_
            clear hK K
            simp only [List.setIfInBounds_toArray, List.set_cons_zero, List.set_cons_succ]
            refine held_step (i := 5) rfl (by kernel_rfl) (by rfl) (fun K hK => ?_)
            go_simp
            refine (C2.out _).mono ?_
            rintro r v22 ⟨rfl, ha22⟩
            have hS22 := box_on hS21 ha22
            refine hK _ _ hS22 ?_
            clear hK K
            simp only [List.setIfInBounds_toArray, List.set_cons_zero, List.set_cons_succ]
            exact hT _ _ ⟨hS22, _, _, rfl, (two_made HW1.out ha18 ha22 (fun X => heap_alloc_new X _)).1⟩
        · go_simp
          have hS23 := box_made hS17 (.cells #[.int .i64 0, .int .i64 0, .int .i64 0, .int .i64 0, .int .i64 0, .int .i64 0, .int .i64 0, .int .i64 0, .int .i64 0, .int .i64 0, .int .i64 0, .int .i64 0, .int .i64 0, .slice none 0 0] 27)
          refine hK _ _ hS23 ?_
          clear hK K
          simp only [List.setIfInBounds_toArray, List.set_cons_zero, List.set_cons_succ]
          refine held_step (i := 2) rfl (by kernel_rfl) (by rfl) (fun K hK => ?_)
          go_simp
          refine (C1.out _).mono ?_
          rintro r v24 ⟨rfl, ha24⟩
          have hS24 := box_on hS23 ha24
          refine hK _ _ hS24 ?_
          clear hK K
          simp only [List.setIfInBounds_toArray, List.set_cons_zero, List.set_cons_succ]
          refine held_step (i := 5) rfl (by kernel_rfl) (by rfl) (fun K hK => ?_)
          go_simp
          refine (C2.out _).mono ?_
          rintro r v25 ⟨rfl, ha25⟩
          have hS25 := box_on hS24 ha25
          refine hK _ _ hS25 ?_
          clear hK K
          simp only [List.setIfInBounds_toArray, List.set_cons_zero, List.set_cons_succ]
          exact hT _ _ ⟨hS25, _, _, rfl, (two_made1 HW1.out (ha24.trans (ha25.mono ha24.size)) (fun X => heap_alloc_new X _)).1⟩
      · go_simp
        have hS26 := box_made hH (.cells #[.int .i64 0, .int .i64 0, .int .i64 0, .int .i64 0, .int .i64 0, .int .i64 0, .int .i64 0, .int .i64 0, .int .i64 0, .int .i64 0, .int .i64 0, .int .i64 0, .int .i64 0, .slice none 0 0] 27)
        refine hK _ _ hS26 ?_
        clear hK K
        simp only [List.setIfInBounds_toArray, List.set_cons_zero, List.set_cons_succ]
        refine held_two (i := 2) (j := 10) rfl rfl (by kernel_rfl) (by rfl) (by rfl) (fun K hK => ?_) (fun K hK => ?_)
        · go_simp
          refine (C1.out _).mono ?_
          rintro r v27 ⟨rfl, ha27⟩
          have hS27 := box_on hS26 ha27
          refine hK _ _ hS27 ?_
          clear hK K
          simp only [List.setIfInBounds_toArray, List.set_cons_zero, List.set_cons_succ]
          refine held_two (i := 5) (j := 10) rfl rfl (by kernel_rfl) (by rfl) (by rfl) (fun K hK => ?_) (fun K hK => ?_)
          · go_simp
            refine (C2.out _).mono ?_
            rintro r v28 ⟨rfl, ha28⟩
            have hS28 := box_on hS27 ha28
            refine hK _ _ hS28 ?_
            clear hK K
            simp only [List.setIfInBounds_toArray, List.set_cons_zero, List.set_cons_succ]
            refine held_step (i := 10) rfl (by kernel_rfl) (by rfl) (fun K hK => ?_)
            go_simp
            have hS29 := box_made hS28 (.cells #[.int .i64 0, .int .i64 0, .int .i64 0, .int .i64 0, .int .i64 0, .int .i64 0, .int .i64 0, .int .i64 0, .int .i64 0, .int .i64 0, .int .i64 0, .int .i64 0, .int .i64 0, .slice none 0 0] 27)
            refine hK _ _ hS29 ?_
            clear hK K
            simp only [List.setIfInBounds_toArray, List.set_cons_zero, List.set_cons_succ]
            exact hT _ _ ⟨hS29, _, _, rfl, (two_made HW1.out (ha27.trans (ha28.mono ha27.size)) (Below.refl _ _) (fun X => heap_alloc_new X _)).2⟩
          · go_simp
            have hS30 := box_made hS27 (.cells #[.int .i64 0, .int .i64 0, .int .i64 0, .int .i64 0, .int .i64 0, .int .i64 0, .int .i64 0, .int .i64 0, .int .i64 0, .int .i64 0, .int .i64 0, .int .i64 0, .int .i64 0, .slice none 0 0] 27)
            refine hK _ _ hS30 ?_
            clear hK K
            simp only [List.setIfInBounds_toArray, List.set_cons_zero, List.set_cons_succ]
            refine held_step (i := 5) rfl (by kernel_rfl) (by rfl) (fun K hK => ?_)
            go_simp
            refine (C2.out _).mono ?_
            rintro r v31 ⟨rfl, ha31⟩
            have hS31 := box_on hS30 ha31
            refine hK _ _ hS31 ?_
            clear hK K
            simp only [List.setIfInBounds_toArray, List.set_cons_zero, List.set_cons_succ]
            exact hT _ _ ⟨hS31, _, _, rfl, (two_made HW1.out ha27 ha31 (fun X => heap_alloc_new X _)).2⟩
        · go_simp
          have hS32 := box_made hS26 (.cells #[.int .i64 0, .int .i64 0, .int .i64 0, .int .i64 0, .int .i64 0, .int .i64 0, .int .i64 0, .int .i64 0, .int .i64 0, .int .i64 0, .int .i64 0, .int .i64 0, .int .i64 0, .slice none 0 0] 27)
          refine hK _ _ hS32 ?_
          clear hK K
          simp only [List.setIfInBounds_toArray, List.set_cons_zero, List.set_cons_succ]
          refine held_step (i := 2) rfl (by kernel_rfl) (by rfl) (fun K hK => ?_)
          go_simp
          refine (C1.out _).mono ?_
          rintro r v33 ⟨rfl, ha33⟩
          have hS33 := box_on hS32 ha33
          refine hK _ _ hS33 ?_
          clear hK K
          simp only [List.setIfInBounds_toArray, List.set_cons_zero, List.set_cons_succ]
          refine held_step (i := 5) rfl (by kernel_rfl) (by rfl) (fun K hK => ?_)
          go_simp
          refine (C2.out _).mono ?_
          rintro r v34 ⟨rfl, ha34⟩
          have hS34 := box_on hS33 ha34
          refine hK _ _ hS34 ?_
          clear hK K
          simp only [List.setIfInBounds_toArray, List.set_cons_zero, List.set_cons_succ]
          exact hT _ _ ⟨hS34, _, _, rfl, (two_made1 HW1.out (ha33.trans (ha34.mono ha33.size)) (fun X => heap_alloc_new X _)).2⟩
  case rest =>
    obtain ⟨p3, p4, rfl, rfl, rfl, rfl, T2'⟩ := hcut
    have T2 := T2'
    clear T2' C1 C2 HS0
    generalize wc = w2 at *
    obtain ⟨x0, x1, x2, x3, x4, x5, x6, x7, x8, x9, x10, x11, x12, x13⟩ := cells14 T2.out.one
    obtain ⟨y0, y1, y2, y3, y4, y5, y6, y7, y8, y9, y10, y11, y12, y13⟩ := cells14 T2.out.two
    have fz := frozen_at T2.out.two 0
    go_upto_region 3 with fail
    have T3 : Hid (TwoBox w p3 p4 (.cells #[.int .i64 a0, .int .i64 a1, .int .i64 a2, .int .i64 a3, .int .i64 a4, .int .i64 t0, .int .i64 t1, .int .i64 t2, .int .i64 t3, .int .i64 h0, .int .i64 h1, .int .i64 h2, .int .i64 h3, .slice A m c] 27 (0, 0)) (.cells #[.int .i64 a0, .int .i64 b1, .int .i64 b2, .int .i64 b3, .int .i64 b4, .int .i64 u0, .int .i64 u1, .int .i64 u2, .int .i64 u3, .int .i64 g0, .int .i64 g1, .int .i64 g2, .int .i64 g3, .slice A' m' c'] 27 (0, 0)) (w2.setCell ⟨p4, 0, none⟩ (.int .i64 a0))) := T2.out.set _
    clear x0 x1 x2 x3 x4 x5 x6 x7 x8 x9 x10 x11 x12 x13 y0 y1 y2 y3 y4 y5 y6 y7 y8 y9 y10 y11 y12 y13 fz T2
    generalize w2.setCell ⟨p4, 0, none⟩ (.int .i64 a0) = w3 at *
    obtain ⟨x0, x1, x2, x3, x4, x5, x6, x7, x8, x9, x10, x11, x12, x13⟩ := cells14 T3.out.one
    have QV3 := Lib.hid (QV.out _ T3.out.below)
    by_cases hv : ¬ Sb.valid ⟨a0, a1, a2, a3, a4, ⟨t0, t1, t2, t3⟩, ⟨h0, h1, h2, h3⟩, l⟩
    · rw [decide_eq_false hv] at QV3
      clear hv P1 P2 HLO E1 E2 QT QV
      go_wp2_with (first
        | (go_at_call 19; refine QV3.out.mono ?_; rintro r w4 ⟨rfl, hb4⟩; have T4 := Lib.hid (T3.out.on hb4); clear hb4 x0 x1 x2 x3 x4 x5 x6 x7 x8 x9 x10 x11 x12 x13; obtain ⟨x0, x1, x2, x3, x4, x5, x6, x7, x8, x9, x10, x11, x12, x13⟩ := cells14 T4.out.one)
        | (go_at_call 15; revert T4; intro T4; refine (AW.out _ T4.out.below).mono ?_; rintro r w5 ⟨rfl, hb5⟩; have T5 := Lib.hid (T4.out.on hb5); clear hb5))
      go_ret
      exact ⟨rfl, T5.out.below⟩
    replace hv := Classical.not_not.1 hv
    rw [decide_eq_true hv] at QV3
    have HV := Lib.hid hv
    have ha0 : 1 ≤ a0 ∧ a0 ≤ 1099511627775 := hv.1.1
    clear hv QV
    by_cases hmax : 1099511627775 ≤ a0
    · have d0 : decide (1099511627775 ≤ a0) = true := decide_eq_true hmax
      clear hmax ha0 HV P1 P2 HLO E1 E2 QT
      go_wp2_with (first
        | (go_at_call 19; refine QV3.out.mono ?_; rintro r w4 ⟨rfl, hb4⟩; have T4 := Lib.hid (T3.out.on hb4); clear hb4 x0 x1 x2 x3 x4 x5 x6 x7 x8 x9 x10 x11 x12 x13; obtain ⟨x0, x1, x2, x3, x4, x5, x6, x7, x8, x9, x10, x11, x12, x13⟩ := cells14 T4.out.one)
        | (go_at_call 15; revert T4; intro T4; refine (AW.out _ T4.out.below).mono ?_; rintro r w5 ⟨rfl, hb5⟩; have T5 := Lib.hid (T4.out.on hb5); clear hb5))
      go_ret
      exact ⟨rfl, T5.out.below⟩
    have d0 : decide (1099511627775 ≤ a0) = false := decide_eq_false hmax
    have hw0 : IntKind.i64.wrap (a0 + 1) = a0 + 1 := by rw [IntKind.wrap_i64]; omega
    go_upto_region 5 with (go_at_call 19; refine QV3.out.mono ?_; rintro r w4 ⟨rfl, hb4⟩; have T4 := Lib.hid (T3.out.on hb4); clear hb4 x0 x1 x2 x3 x4 x5 x6 x7 x8 x9 x10 x11 x12 x13; obtain ⟨x0, x1, x2, x3, x4, x5, x6, x7, x8, x9, x10, x11, x12, x13⟩ := cells14 T4.out.one)
    obtain ⟨y0, y1, y2, y3, y4, y5, y6, y7, y8, y9, y10, y11, y12, y13⟩ := cells14 T4.out.two
    have fz := frozen_at T4.out.two 0
    go_upto_region 6 with fail
    have T5 : Hid (TwoBox w p3 p4 (.cells #[.int .i64 a0, .int .i64 a1, .int .i64 a2, .int .i64 a3, .int .i64 a4, .int .i64 t0, .int .i64 t1, .int .i64 t2, .int .i64 t3, .int .i64 h0, .int .i64 h1, .int .i64 h2, .int .i64 h3, .slice A m c] 27 (0, 0)) (.cells #[.int .i64 (a0 + 1), .int .i64 b1, .int .i64 b2, .int .i64 b3, .int .i64 b4, .int .i64 u0, .int .i64 u1, .int .i64 u2, .int .i64 u3, .int .i64 g0, .int .i64 g1, .int .i64 g2, .int .i64 g3, .slice A' m' c'] 27 (0, 0)) (w4.setCell ⟨p4, 0, none⟩ (.int .i64 (a0 + 1)))) := T4.out.set _
    clear x0 x1 x2 x3 x4 x5 x6 x7 x8 x9 x10 x11 x12 x13 y0 y1 y2 y3 y4 y5 y6 y7 y8 y9 y10 y11 y12 y13 fz T3 T4 QV3 d0
    generalize w4.setCell ⟨p4, 0, none⟩ (.int .i64 (a0 + 1)) = w5 at *
    obtain ⟨y0, y1, y2, y3, y4, y5, y6, y7, y8, y9, y10, y11, y12, y13⟩ := cells14 T5.out.two
    have QT5 := Lib.hid (QT.out _ T5.out.below)
    by_cases hv2 : ¬ Sb.valid ⟨a0 + 1, b1, b2, b3, b4, ⟨u0, u1, u2, u3⟩, ⟨g0, g1, g2, g3⟩, l'⟩
    · rw [decide_eq_false hv2] at QT5
      clear hv2 HV P1 P2 HLO E1 E2 QT
      go_wp2_with (first
        | (go_at_call 19; refine QT5.out.mono ?_; rintro r w6 ⟨rfl, hb6⟩; have T6 := Lib.hid (T5.out.on hb6); clear hb6 y0 y1 y2 y3 y4 y5 y6 y7 y8 y9 y10 y11 y12 y13)
        | (go_at_call 15; revert T6; intro T6; refine (AW.out _ T6.out.below).mono ?_; rintro r w7 ⟨rfl, hb7⟩; have T7 := Lib.hid (T6.out.on hb7); clear hb7))
      go_ret
      exact ⟨rfl, T7.out.below⟩
    replace hv2 := Classical.not_not.1 hv2
    rw [decide_eq_true hv2] at QT5
    have HV2 := Lib.hid hv2
    clear hv2 QT hmax ha0 hw0
    go_wp2_with fail
    refine QT5.out.mono ?_
    rintro r w6 ⟨rfl, hb6⟩
    have T6 := Lib.hid (T5.out.on hb6)
    clear hb6 y0 y1 y2 y3 y4 y5 y6 y7 y8 y9 y10 y11 y12 y13 T5 QT5
    go_wp2_with fail
    refine (new_dev 3 3 rfl _ (by decide) (by decide)).mono ?_
    rintro r w8 ⟨g, cb, mb, rfl, hd8, hdn, hb8⟩
    have T8 := Lib.hid (T6.out.on hb8)
    have HDN := Lib.hid hdn
    have HLT : Hid (p3 < w6.heap.size ∧ p4 < w6.heap.size) := T6.out.lt
    have HWS : Hid (w.heap.size ≤ w6.heap.size) := T6.out.below.size
    have HD8 := Lib.hid hd8
    obtain ⟨f1, hp1, he1⟩ := first_pub HV.out (show 2 ≤ 3 by decide) (List.replicate (3 * 64) 0)
    have P1' := P1.out _ g cb mb _ T8.out.below hd8 (by decide)
    rw [hp1, he1] at P1'
    have P19 := Lib.hid P1'
    unfold WriteDid at P19
    clear hd8 hdn hb8 hp1 he1 P1' P1
    obtain ⟨x0, x1, x2, x3, x4, x5, x6, x7, x8, x9, x10, x11, x12, x13⟩ := cells14 T8.out.one
    go_wp2_with fail
    refine P19.out.mono ?_
    rintro r w9 ⟨rfl, hd9, hk9⟩
    have T9 := Lib.hid (T8.out.dev HDN.out HLT.out HWS.out hk9)
    have HD9 : Hid (Dev w9 g cb mb 3 (Flash.clean (holdOne 3 ⟨a0, a1, a2, a3, a4, ⟨t0, t1, t2, t3⟩, ⟨h0, h1, h2, h3⟩, l⟩) 1 false f1)) := hd9
    clear hd9 hk9 x0 x1 x2 x3 x4 x5 x6 x7 x8 x9 x10 x11 x12 x13 P19 HD8 T8 T6
    obtain ⟨kk, hkk, hbits⟩ := low3 x
    have HSK := Lib.hid hsel.out
    rw [hbits] at HSK
    clear hsel
    go_wp2_with fail
    refine (fuse_dev (kk : Int) (by omega) HD9.out).mono ?_
    rintro r w10 ⟨rfl, hd10, hk10⟩
    have T10 := Lib.hid (T9.out.dev HDN.out HLT.out HWS.out hk10)
    have P2' := P2.out _ g cb mb _ T10.out.below hd10 (show 1 < 4611686018427387904 by decide)
    obtain ⟨s2, hs2⟩ : ∃ s2, s2 = (Flash.clean (holdOne 3 ⟨a0, a1, a2, a3, a4, ⟨t0, t1, t2, t3⟩, ⟨h0, h1, h2, h3⟩, l⟩) 1 true (kk : Int)).pub 3 ⟨a0 + 1, b1, b2, b3, b4, ⟨u0, u1, u2, u3⟩, ⟨g0, g1, g2, g3⟩, l'⟩ := ⟨_, rfl⟩
    obtain ⟨e2, he2⟩ : ∃ e2, e2 = (Flash.clean (holdOne 3 ⟨a0, a1, a2, a3, a4, ⟨t0, t1, t2, t3⟩, ⟨h0, h1, h2, h3⟩, l⟩) 1 true (kk : Int)).pubErr 3 ⟨a0 + 1, b1, b2, b3, b4, ⟨u0, u1, u2, u3⟩, ⟨g0, g1, g2, g3⟩, l'⟩ := ⟨_, rfl⟩
    rw [← hs2, ← he2] at P2'
    have P29 := Lib.hid P2'
    unfold WriteDid at P29
    have FD := atomic_kept HV.out HV2.out rfl 1 (kk : Int) y s2 e2 hs2 he2 _ rfl HSK.out
    clear P2' hs2 he2 P2 hd10 hk10 HD9 T9
    obtain ⟨y0, y1, y2, y3, y4, y5, y6, y7, y8, y9, y10, y11, y12, y13⟩ := cells14 T10.out.two
    go_wp2_with fail
    refine P29.out.mono ?_
    rintro r w11 ⟨rfl, hd11, hk11⟩
    have T11 := Lib.hid ((T10.out.dev HDN.out HLT.out HWS.out hk11).made (.cells #[.bool y] 4))
    have HD11 : Hid (Dev (w11.alloc (.cells #[.bool y] 4)) g cb mb 3 s2) := hd11.on (below_new _ _)
    have BK : Hid (Bls (w11.alloc (.cells #[.bool y] 4)) (w11.alloc (.cells #[.bool y] 4)).heap.size (some ⟨w11.heap.size, 0, none⟩) [y]) := fun k hk => by
      obtain rfl : k = 0 := by simpa using hk
      refine ⟨_, rfl, by simp, ?_⟩
      rw [add_flat, cell_of_row _ _ _ _ _ _ (heap_alloc_new w11 _)]; rfl
    clear P29 hd11 hk11 y0 y1 y2 y3 y4 y5 y6 y7 y8 y9 y10 y11 y12 y13 T10
    go_wp2_with fail
    refine (crash_any _ none 1 1 0 0 [y] [] (by omega) rfl rfl BK (fun k hk => absurd hk (by simp)) HD11).mono ?_
    rintro r w12 ⟨g5, c5, m5, rfl, hd12, -, -, -, hb12⟩
    have T12 := Lib.hid (T11.out.on hb12)
    have HD12 := Lib.hid hd12
    have HE12 : Hid (Dev w12 g cb mb 3 s2) := HD11.out.on hb12
    clear hd12 hb12 BK HD11 T11
    generalize crashed 3 s2.cur s2.old [y] [] = lc at *
    have HL12 : Hid (Calls Tryd.prog 14 #[.pointer (some ⟨g5, 0, none⟩)] w12 (GotS w12 ((Sp.newest (sec lc 0) (sec lc 1)).getD Sb.S0) (Sp.newest (sec lc 0) (sec lc 1)).isSome)) := HLO.out w12 g5 c5 m5 _ T12.out.below HD12.out rfl
    clear HLO HD12
    generalize Sp.newest (sec lc 0) (sec lc 1) = nw at *
    obtain ⟨rfl, hdd, hnw⟩ := FD
    have hsome : nw.isSome = true := by rw [hnw]; rfl
    obtain ⟨xs, hxs⟩ : ∃ xs, xs = nw.getD Sb.S0 := ⟨_, rfl⟩
    rw [hsome, ← hxs] at HL12
    have hx8 : xs = ⟨a0 + 1, b1, b2, b3, b4, ⟨u0, u1, u2, u3⟩, ⟨g0, g1, g2, g3⟩, l'⟩ := by rw [hxs, hnw]; rfl
    have HXE := Lib.hid hx8
    clear hx8 hnw
    clear hsome hxs HV HV2 HSK
    unfold GotS at HL12
    go_wp2_with fail
    refine HL12.out.mono ?_
    rintro r w14 ⟨A8, n8, c8, rfl, ⟨hat8, -⟩, hb14⟩
    have T14 := Lib.hid ((T12.out.on hb14).made (.cells #[.int .i64 xs.gen, .int .i64 xs.phase, .int .i64 xs.mig, .int .i64 xs.tail, .int .i64 xs.now, .int .i64 xs.t.id, .int .i64 xs.t.ver, .int .i64 xs.t.rs, .int .i64 xs.t.reg, .int .i64 xs.h.id, .int .i64 xs.h.ver, .int .i64 xs.h.rs, .int .i64 xs.h.reg, .slice A8 n8 c8] 27))
    have HM14 : Hid ((w14.alloc (.cells #[.int .i64 xs.gen, .int .i64 xs.phase, .int .i64 xs.mig, .int .i64 xs.tail, .int .i64 xs.now, .int .i64 xs.t.id, .int .i64 xs.t.ver, .int .i64 xs.t.rs, .int .i64 xs.t.reg, .int .i64 xs.h.id, .int .i64 xs.h.ver, .int .i64 xs.h.rs, .int .i64 xs.h.reg, .slice A8 n8 c8] 27)).heap[w14.heap.size]? = some (.cells #[.int .i64 xs.gen, .int .i64 xs.phase, .int .i64 xs.mig, .int .i64 xs.tail, .int .i64 xs.now, .int .i64 xs.t.id, .int .i64 xs.t.ver, .int .i64 xs.t.rs, .int .i64 xs.t.reg, .int .i64 xs.h.id, .int .i64 xs.h.ver, .int .i64 xs.h.rs, .int .i64 xs.h.reg, .slice A8 n8 c8] 27 (0, 0))) := heap_alloc_new _ _
    have HC14 : Hid (SbAt (w14.alloc (.cells #[.int .i64 xs.gen, .int .i64 xs.phase, .int .i64 xs.mig, .int .i64 xs.tail, .int .i64 xs.now, .int .i64 xs.t.id, .int .i64 xs.t.ver, .int .i64 xs.t.rs, .int .i64 xs.t.reg, .int .i64 xs.h.id, .int .i64 xs.h.ver, .int .i64 xs.h.rs, .int .i64 xs.h.reg, .slice A8 n8 c8] 27)) (w14.alloc (.cells #[.int .i64 xs.gen, .int .i64 xs.phase, .int .i64 xs.mig, .int .i64 xs.tail, .int .i64 xs.now, .int .i64 xs.t.id, .int .i64 xs.t.ver, .int .i64 xs.t.rs, .int .i64 xs.t.reg, .int .i64 xs.h.id, .int .i64 xs.h.ver, .int .i64 xs.h.rs, .int .i64 xs.h.reg, .slice A8 n8 c8] 27)).heap.size xs A8 n8 c8) := hat8.on (below_new _ _)
    have HE14 : Hid (Dev (w14.alloc (.cells #[.int .i64 xs.gen, .int .i64 xs.phase, .int .i64 xs.mig, .int .i64 xs.tail, .int .i64 xs.now, .int .i64 xs.t.id, .int .i64 xs.t.ver, .int .i64 xs.t.rs, .int .i64 xs.t.reg, .int .i64 xs.h.id, .int .i64 xs.h.ver, .int .i64 xs.h.rs, .int .i64 xs.h.reg, .slice A8 n8 c8] 27)) g cb mb 3 s2) := (HE12.out.on hb14).on (below_new _ _)
    clear hat8 hb14 HL12 T12 HE12
    go_upto_region 14 with fail
    generalize w14.alloc (.cells #[.int .i64 xs.gen, .int .i64 xs.phase, .int .i64 xs.mig, .int .i64 xs.tail, .int .i64 xs.now, .int .i64 xs.t.id, .int .i64 xs.t.ver, .int .i64 xs.t.rs, .int .i64 xs.t.reg, .int .i64 xs.h.id, .int .i64 xs.h.ver, .int .i64 xs.h.rs, .int .i64 xs.h.reg, .slice A8 n8 c8] 27) = w18 at *
    have hx8 := HXE.out
    have HXF : Hid (xs.f.length ≤ 4) := by show _ ≤ _; rw [hx8]; exact HK4.out.2
    have HS2 : Hid (Sb.same xs ⟨a0 + 1, b1, b2, b3, b4, ⟨u0, u1, u2, u3⟩, ⟨g0, g1, g2, g3⟩, l'⟩ = true) := by show _ = _; rw [hx8]; exact Sb.same_self _
    have HBS : Hid (Sb.same xs ⟨a0, a1, a2, a3, a4, ⟨t0, t1, t2, t3⟩, ⟨h0, h1, h2, h3⟩, l⟩ = false) := by
      show _ = _
      rw [hx8]
      exact same_not (show a0 + 1 ≠ a0 by omega)
    have QE1 : Hid (∀ W, Below w18.heap.size w18 W → Calls Tryd.prog 10 #[.agg #[.int .i64 xs.gen, .int .i64 xs.phase, .int .i64 xs.mig, .int .i64 xs.tail, .int .i64 xs.now, .int .i64 xs.t.id, .int .i64 xs.t.ver, .int .i64 xs.t.rs, .int .i64 xs.t.reg, .int .i64 xs.h.id, .int .i64 xs.h.ver, .int .i64 xs.h.rs, .int .i64 xs.h.reg, .slice A8 n8 c8], .agg #[.int .i64 a0, .int .i64 a1, .int .i64 a2, .int .i64 a3, .int .i64 a4, .int .i64 t0, .int .i64 t1, .int .i64 t2, .int .i64 t3, .int .i64 h0, .int .i64 h1, .int .i64 h2, .int .i64 h3, .slice A m c]] W fun r w' => r = .returned (.bool false) ∧ Below W.heap.size W w') := fun W hW => by
      rw [← HBS.out]
      exact E1.out xs W A8 n8 c8 HXF.out (T14.out.on hW).below (HC14.out.on hW)
    have QE2 : Hid (∀ W, Below w18.heap.size w18 W → Calls Tryd.prog 10 #[.agg #[.int .i64 xs.gen, .int .i64 xs.phase, .int .i64 xs.mig, .int .i64 xs.tail, .int .i64 xs.now, .int .i64 xs.t.id, .int .i64 xs.t.ver, .int .i64 xs.t.rs, .int .i64 xs.t.reg, .int .i64 xs.h.id, .int .i64 xs.h.ver, .int .i64 xs.h.rs, .int .i64 xs.h.reg, .slice A8 n8 c8], .agg #[.int .i64 (a0 + 1), .int .i64 b1, .int .i64 b2, .int .i64 b3, .int .i64 b4, .int .i64 u0, .int .i64 u1, .int .i64 u2, .int .i64 u3, .int .i64 g0, .int .i64 g1, .int .i64 g2, .int .i64 g3, .slice A' m' c']] W fun r w' => r = .returned (.bool true) ∧ Below W.heap.size W w') := fun W hW => by
      rw [← HS2.out]
      exact E2.out xs W A8 n8 c8 HXF.out (T14.out.on hW).below (HC14.out.on hW)
    have QD : Hid (∀ W, Dev W g cb mb 3 s2 → Calls Tryd.prog 28 #[.pointer (some ⟨g, 0, none⟩)] W fun e w' => e = .returned (.bool true) ∧ W = w') := fun W hd => by
      have h := dead_any (Lib.hid hd)
      rwa [hdd] at h
    clear E1 E2 HS2 hx8 HXF hdd HBS HXE
    go_wp2_with (first
      | (go_at_call 10; revert U21; intro U21; refine (QE2.out _ (VB20.out.trans (VB21.out.mono VB20.out.size))).mono ?_; rintro r w22 ⟨rfl, hb22⟩; have U22 := Lib.hid (U21.out.on hb22); clear hb22)
      | (go_at_call 10; revert U20; intro U20; refine (QE1.out _ VB20.out).mono ?_; rintro r w21 ⟨rfl, hb21⟩; have U21 := Lib.hid (U20.out.on hb21); have VB21 := Lib.hid hb21; have HM21 : Hid (w21.heap[w14.heap.size]? = some _) := box_on HM20.out hb21; clear hb21 x0 x1 x2 x3 x4 x5 x6 x7 x8 x9 x10 x11 x12 x13 y0 y1 y2 y3 y4 y5 y6 y7 y8 y9 y10 y11 y12 y13; obtain ⟨x0, x1, x2, x3, x4, x5, x6, x7, x8, x9, x10, x11, x12, x13⟩ := cells14 HM21.out; obtain ⟨y0, y1, y2, y3, y4, y5, y6, y7, y8, y9, y10, y11, y12, y13⟩ := cells14 U21.out.two)
      | (go_at_call 28; revert HE20; intro HE20; refine (QD.out _ HE20.out).mono ?_; rintro r w' ⟨rfl, rfl⟩)
      | (go_at_call 15; refine (AW.out _ T14.out.below).mono ?_; rintro r w20 ⟨rfl, hb20⟩; have U20 := Lib.hid (T14.out.on hb20); have VB20 := Lib.hid hb20; have HE20 : Hid (Dev w20 g cb mb 3 s2) := HE14.out.on hb20; have HM20 : Hid (w20.heap[w14.heap.size]? = some _) := box_on HM14.out hb20; clear hb20; obtain ⟨x0, x1, x2, x3, x4, x5, x6, x7, x8, x9, x10, x11, x12, x13⟩ := cells14 HM20.out; obtain ⟨y0, y1, y2, y3, y4, y5, y6, y7, y8, y9, y10, y11, y12, y13⟩ := cells14 U20.out.one))
    go_ret
    exact ⟨ret_bool (by simp), U22.out.below⟩
end Go.Proofs.YtcjnhemlkahgoaaDoor
