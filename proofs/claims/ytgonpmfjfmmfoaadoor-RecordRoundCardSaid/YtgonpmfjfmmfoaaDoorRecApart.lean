/-
  The walk of the statement on the bytes of two records at one place.
-/
import Derived.Test.YtgonpmfjfmmfoaaDoorRecCut
namespace Go.Proofs.YtgonpmfjfmmfoaaDoor
open Go.RowKit
/-- Three blocks stay as they are, and so does all that was there at first. -/
def Sd3 (w : World) (o0 o1 o2 : Obj) (W : World) : Prop := W.heap[w.heap.size]? = some o0 ∧ W.heap[w.heap.size + 1]? = some o1 ∧ W.heap[w.heap.size + 2]? = some o2 ∧ Below w.heap.size w W
theorem Sd3.next {w W W' W'' : World} {o0 o1 o2 : Obj} (h : Sd3 w o0 o1 o2 W) (k : Below W'.heap.size W' W'') (e1 : W'.heap = W.heap) (e2 : W'.os = W.os) (e3 : W'.tape = W.tape) (e4 : W'.output = W.output) : Sd3 w o0 o1 o2 W'' := by
  have a : Sd w w.heap.size o0 W'' := Sd.next ⟨h.1, h.2.2.2⟩ k e1 e2 e3 e4
  have b : Sd w (w.heap.size + 1) o1 W'' := Sd.next ⟨h.2.1, h.2.2.2⟩ k e1 e2 e3 e4
  have c : Sd w (w.heap.size + 2) o2 W'' := Sd.next ⟨h.2.2.1, h.2.2.2⟩ k e1 e2 e3 e4
  exact ⟨a.1, b.1, c.1, a.2⟩
theorem sd3_box (w : World) (a b c a' b' c' d' a'' b'' c'' d'' : Value) (t t' t'' : TypeId) :
    Sd3 w (.cells #[a, b, c] t (0, 0)) (.cells #[a', b', c', d'] t' (0, 0)) (.cells #[a'', b'', c'', d''] t'' (0, 0)) (((w.alloc (.cells #[a, b, c] t)).alloc (.cells #[a', b', c', d'] t')).alloc (.cells #[a'', b'', c'', d''] t'')) :=
  ⟨(heap_alloc_old _ _ (by simp; omega)).trans ((heap_alloc_old _ _ (by simp)).trans (heap_alloc_new w _)), (heap_alloc_old _ _ (by simp)).trans (alloc_at (by simp)), alloc_at (by simp), (((Below.refl _ w).alloc (Nat.le_refl _) _).alloc (by simp) _).alloc (by simp; omega) _⟩
theorem sd3_stored1 {w w1 : World} {o0 o2 : Obj} {a b c d a' b' c' d' : Value} {t : TypeId} (h : Sd3 w o0 (.cells #[a, b, c, d] t (0, 0)) o2 w1) :
    Sd3 w o0 (.cells #[a', b', c', d'] t (0, 0)) o2 ((((w1.setCell ⟨w.heap.size + 1, 0, none⟩ a').setCell ⟨w.heap.size + 1, 1, none⟩ b').setCell ⟨w.heap.size + 1, 2, none⟩ c').setCell ⟨w.heap.size + 1, 3, none⟩ d') :=
  ⟨stored_far h.1 (by omega), stored h.2.1, ((stored_grown w1 (w.heap.size + 1) a' b' c' d').block _ (Array.getElem?_eq_some_iff.1 h.2.2.1).1 (fun e => by injection e with e; omega)).trans h.2.2.1, h.2.2.2.trans (below_of_grown (stored_grown _ _ _ _ _ _) (by omega) h.2.2.2.size)⟩
theorem sd3_stored2 {w w1 : World} {o0 o1 : Obj} {a b c d a' b' c' d' : Value} {t : TypeId} (h : Sd3 w o0 o1 (.cells #[a, b, c, d] t (0, 0)) w1) :
    Sd3 w o0 o1 (.cells #[a', b', c', d'] t (0, 0)) ((((w1.setCell ⟨w.heap.size + 2, 0, none⟩ a').setCell ⟨w.heap.size + 2, 1, none⟩ b').setCell ⟨w.heap.size + 2, 2, none⟩ c').setCell ⟨w.heap.size + 2, 3, none⟩ d') :=
  ⟨stored_far h.1 (by omega), stored_far h.2.1 (by omega), stored h.2.2.1, h.2.2.2.trans (below_of_grown (stored_grown _ _ _ _ _ _) (by omega) h.2.2.2.size)⟩
set_option maxHeartbeats 2000000 in
theorem recordapart_any (v seq off kd x kd' x' : Int) (A1 A2 B1 B2 : Option Addr) (n1 n2 c1 c2 p1 p2 d1 d2 : Nat) (k l k' l' : List Nat) (w : World) (hsq : seq ≤ 9223372036854775807) (hs1 : SlIs A1 n1 c1) (hs2 : SlIs A2 n2 c2) (hk : Hid (k.length = n1 ∧ Bs w w.heap.size A1 k)) (hv : Hid (l.length = n2 ∧ Bs w w.heap.size A2 l))
    (hs1' : SlIs B1 p1 d1) (hs2' : SlIs B2 p2 d2) (hk' : Hid (k'.length = p1 ∧ Bs w w.heap.size B1 k')) (hv' : Hid (l'.length = p2 ∧ Bs w w.heap.size B2 l')) (ht : Hid (TabW w)) (hz : 0 < w.heap.size) :
    Calls Tryd.prog 9 #[.agg #[.int .i64 v, .int .i64 seq, .int .i64 off], .agg #[.int .i64 kd, .slice A1 n1 c1, .slice A2 n2 c2, .int .i64 x], .agg #[.int .i64 kd', .slice B1 p1 d1, .slice B2 p2 d2, .int .i64 x']] w fun e w' => e = .returned (.bool true) ∧ Below w.heap.size w w' := by
  obtain ⟨m1, hm1⟩ := min_is n1 260
  obtain ⟨m2, hm2⟩ := min_is n2 200
  obtain ⟨r1, hr1⟩ := min_is p1 260
  obtain ⟨r2, hr2⟩ := min_is p2 200
  have HSH := Lib.hid (fun W => short_any kd x A1 A2 n1 n2 c1 c2 m1 m2 W hs1 hs2 hm1 hm2)
  have HSH' := Lib.hid (fun W => short_any kd' x' B1 B2 p1 p2 d1 d2 r1 r2 W hs1' hs2' hr1 hr2)
  obtain ⟨a1, a2⟩ := min_bs hk.out.1 hk.out.2 hm1
  obtain ⟨b1, b2⟩ := min_bs hv.out.1 hv.out.2 hm2
  obtain ⟨a1', a2'⟩ := min_bs hk'.out.1 hk'.out.2 hr1
  obtain ⟨b1', b2'⟩ := min_bs hv'.out.1 hv'.out.2 hr2
  have q1 := min_sl hs1 hm1
  have q2 := min_sl hs2 hm2
  have q1' := min_sl hs1' hr1
  have q2' := min_sl hs2' hr2
  have HMM : Hid (m1 ≤ 140737488355328 ∧ m2 ≤ 140737488355328 ∧ r1 ≤ 140737488355328 ∧ r2 ≤ 140737488355328) := by
    unfold MinIs at hm1 hm2 hr1 hr2
    exact ⟨by omega, by omega, by omega, by omega⟩
  clear hs1 hs2 hm1 hm2 hs1' hs2' hr1 hr2
  have HEN : Hid (∀ W, Below w.heap.size w W → Calls Tryd.prog 16 #[.int .i64 v, .int .i64 seq, .int .i64 off, .agg #[.int .i64 kd, .slice A1 m1 c1, .slice A2 m2 c2, .int .i64 x]] W (EncR W v seq off ⟨kd, k.take m1, l.take m2, x⟩)) := fun W hW =>
    encode_any v seq off kd x _ _ A1 w.heap.size m1 c1 A2 m2 c2 W hW.size hsq q1 q2 ⟨a1, a2.below hW (Nat.le_refl _)⟩ ⟨b1, b2.below hW (Nat.le_refl _)⟩ (ht.out.below hW hz) (Nat.lt_of_lt_of_le hz hW.size)
  have HEN' : Hid (∀ W, Below w.heap.size w W → Calls Tryd.prog 16 #[.int .i64 v, .int .i64 seq, .int .i64 off, .agg #[.int .i64 kd', .slice B1 r1 d1, .slice B2 r2 d2, .int .i64 x']] W (EncR W v seq off ⟨kd', k'.take r1, l'.take r2, x'⟩)) := fun W hW =>
    encode_any v seq off kd' x' _ _ B1 w.heap.size r1 d1 B2 r2 d2 W hW.size hsq q1' q2' ⟨a1', a2'.below hW (Nat.le_refl _)⟩ ⟨b1', b2'.below hW (Nat.le_refl _)⟩ (ht.out.below hW hz) (Nat.lt_of_lt_of_le hz hW.size)
  have HEQ : Hid (∀ W, Below w.heap.size w W → Calls Tryd.prog 20 #[.agg #[.int .i64 kd, .slice A1 m1 c1, .slice A2 m2 c2, .int .i64 x], .agg #[.int .i64 kd', .slice B1 r1 d1, .slice B2 r2 d2, .int .i64 x']] W fun e w' => e = .returned (.bool (Rc.same ⟨kd, k.take m1, l.take m2, x⟩ ⟨kd', k'.take r1, l'.take r2, x'⟩)) ∧ Below W.heap.size W w') := fun W hW =>
    receq_any kd x kd' x' A1 A2 B1 B2 w.heap.size w.heap.size m1 m2 r1 r2 c1 c2 d1 d2 _ _ _ _ W hW.size hW.size ⟨a1, a2.below hW (Nat.le_refl _)⟩ ⟨b1, b2.below hW (Nat.le_refl _)⟩ ⟨a1', a2'.below hW (Nat.le_refl _)⟩ ⟨b1', b2'.below hW (Nat.le_refl _)⟩ HMM
  have HAW : Hid (∀ W, Below w.heap.size w W → Calls Tryd.prog 11 #[] W fun e w' => e = .returned (.bool true) ∧ Below W.heap.size W w') := fun W hW => awake_any W (ht.out.below hW hz) (Nat.lt_of_lt_of_le hz hW.size)
  have HAP : Hid (Rc.err v seq off ⟨kd, k.take m1, l.take m2, x⟩ = 0 → Rc.err v seq off ⟨kd', k'.take r1, l'.take r2, x'⟩ = 0 → decide (Rc.enc v seq off ⟨kd, k.take m1, l.take m2, x⟩ = Rc.enc v seq off ⟨kd', k'.take r1, l'.take r2, x'⟩) = Rc.same ⟨kd, k.take m1, l.take m2, x⟩ ⟨kd', k'.take r1, l'.take r2, x'⟩) := fun e1 e2 =>
    Rc.apart v seq off _ _ (err_zero.1 e1).1 (err_zero.1 e2).1
  have HLN : Hid ((Rc.enc v seq off ⟨kd, k.take m1, l.take m2, x⟩).length ≤ 140737488355328 ∧ (Rc.enc v seq off ⟨kd', k'.take r1, l'.take r2, x'⟩).length ≤ 140737488355328 ∨ Rc.err v seq off ⟨kd, k.take m1, l.take m2, x⟩ ≠ 0 ∨ Rc.err v seq off ⟨kd', k'.take r1, l'.take r2, x'⟩ ≠ 0) := by
    by_cases e1 : Rc.err v seq off ⟨kd, k.take m1, l.take m2, x⟩ = 0
    · by_cases e2 : Rc.err v seq off ⟨kd', k'.take r1, l'.take r2, x'⟩ = 0
      · have h1 := Rc.chk_ok (err_zero.1 e1).1
        have h2 := Rc.chk_ok (err_zero.1 e2).1
        rw [Rc.enc_length, Rc.enc_length]
        unfold Rc.len
        exact .inl ⟨by have := h1.2.2.1; have := h1.2.2.2.1; omega, by have := h2.2.2.1; have := h2.2.2.2.1; omega⟩
      · exact .inr (.inr e2)
    · exact .inr (.inl e1)
  clear a1 a2 b1 b2 a1' a2' b1' b2' q1 q2 q1' q2'
  unfold EncR at HEN HEN'
  generalize Rc.same ⟨kd, k.take m1, l.take m2, x⟩ ⟨kd', k'.take r1, l'.take r2, x'⟩ = sm at HEQ HAP
  generalize Rc.enc v seq off ⟨kd, k.take m1, l.take m2, x⟩ = en at HEN HAP HLN
  generalize Rc.enc v seq off ⟨kd', k'.take r1, l'.take r2, x'⟩ = en' at HEN' HAP HLN
  generalize Rc.err v seq off ⟨kd, k.take m1, l.take m2, x⟩ = er at HEN HAP HLN
  generalize Rc.err v seq off ⟨kd', k'.take r1, l'.take r2, x'⟩ = er' at HEN' HAP HLN
  go_enter Tryd.func9, Tryd.ntmps9
  go_wp2_with fail
  have HS0 := Lib.hid (sd3_box w (.int .i64 v) (.int .i64 seq) (.int .i64 off) (.int .i64 kd) (.slice A1 n1 c1) (.slice A2 n2 c2) (.int .i64 x) (.int .i64 kd') (.slice B1 p1 d1) (.slice B2 p2 d2) (.int .i64 x') 32 24 24)
  generalize (((w.alloc (.cells #[.int .i64 v, .int .i64 seq, .int .i64 off] 32)).alloc (.cells #[.int .i64 kd, .slice A1 n1 c1, .slice A2 n2 c2, .int .i64 x] 24)).alloc (.cells #[.int .i64 kd', .slice B1 p1 d1, .slice B2 p2 d2, .int .i64 x'] 24)) = w0 at *
  obtain ⟨y0, y1, y2, y3⟩ := four_cells HS0.out.2.1
  obtain ⟨z0, z1, z2, z3⟩ := four_cells HS0.out.2.2.1
  go_region_with (first
    | (go_at_call_of 10 (Value.agg #[.int .i64 kd, .slice A1 n1 c1, .slice A2 n2 c2, .int .i64 x]); refine (HSH.out _).mono ?_; rintro e w1 ⟨rfl, hb1⟩; have HS1 := Lib.hid (HS0.out.next hb1 (by rfl) (by rfl) (by rfl) (by rfl)); obtain ⟨s0, s1, s2, s3⟩ := four_cells HS1.out.2.2.1; clear hb1)
    | (go_at_call_of 10 (Value.agg #[.int .i64 kd', .slice B1 p1 d1, .slice B2 p2 d2, .int .i64 x']); refine (HSH'.out _).mono ?_; rintro e w2 ⟨rfl, hb2⟩; have HS2 := Lib.hid (HS1.out.next hb2 (by rfl) (by rfl) (by rfl) (by rfl)); obtain ⟨t0, t1, t2, t3⟩ := four_cells HS2.out.2.1; obtain ⟨f0, f1, f2, f3⟩ := four_frozen HS2.out.2.1; obtain ⟨u0, u1, u2, u3⟩ := four_cells HS2.out.2.2.1; obtain ⟨g0, g1, g2, g3⟩ := four_frozen HS2.out.2.2.1; clear hb2))
  all_goals
    have HS3 : Hid (Sd3 w (.cells #[.int .i64 v, .int .i64 seq, .int .i64 off] 32 (0, 0)) (.cells #[.int .i64 kd, .slice A1 m1 c1, .slice A2 m2 c2, .int .i64 x] 24 (0, 0)) (.cells #[.int .i64 kd', .slice B1 r1 d1, .slice B2 r2 d2, .int .i64 x'] 24 (0, 0))
      ((((((((w2.setCell ⟨w.heap.size + 1, 0, none⟩ (.int .i64 kd)).setCell ⟨w.heap.size + 1, 1, none⟩ (.slice A1 m1 c1)).setCell ⟨w.heap.size + 1, 2, none⟩ (.slice A2 m2 c2)).setCell ⟨w.heap.size + 1, 3, none⟩ (.int .i64 x)).setCell ⟨w.heap.size + 1 + 1, 0, none⟩ (.int .i64 kd')).setCell ⟨w.heap.size + 1 + 1, 1, none⟩ (.slice B1 r1 d1)).setCell ⟨w.heap.size + 1 + 1, 2, none⟩ (.slice B2 r2 d2)).setCell ⟨w.heap.size + 1 + 1, 3, none⟩ (.int .i64 x'))) := sd3_stored2 (sd3_stored1 HS2.out)
    clear s0 s1 s2 s3 t0 t1 t2 t3 f0 f1 f2 f3 u0 u1 u2 u3 g0 g1 g2 g3 y0 y1 y2 y3 z0 z1 z2 z3 HS0 HS1 HS2
    generalize ((((((((w2.setCell ⟨w.heap.size + 1, 0, none⟩ (.int .i64 kd)).setCell ⟨w.heap.size + 1, 1, none⟩ (.slice A1 m1 c1)).setCell ⟨w.heap.size + 1, 2, none⟩ (.slice A2 m2 c2)).setCell ⟨w.heap.size + 1, 3, none⟩ (.int .i64 x)).setCell ⟨w.heap.size + 1 + 1, 0, none⟩ (.int .i64 kd')).setCell ⟨w.heap.size + 1 + 1, 1, none⟩ (.slice B1 r1 d1)).setCell ⟨w.heap.size + 1 + 1, 2, none⟩ (.slice B2 r2 d2)).setCell ⟨w.heap.size + 1 + 1, 3, none⟩ (.int .i64 x')) = w3 at *
    obtain ⟨y0, y1, y2⟩ := three_cells HS3.out.1
    obtain ⟨z0, z1, z2, z3⟩ := four_cells HS3.out.2.1
    go_wp2_with fail
    refine (HEN.out _ HS3.out.2.2.2).mono ?_
    rintro e w4 ⟨A3, n3, c3, rfl, hs3, hy3, hx3, hb4⟩
    have HS4 := Lib.hid (HS3.out.next hb4 (by rfl) (by rfl) (by rfl) (by rfl))
    have HY3 := Lib.hid hy3
    have HX3 := Lib.hid hb4
    clear hs3 hy3 hx3 hb4 y0 y1 y2 z0 z1 z2 z3
    obtain ⟨y0, y1, y2⟩ := three_cells HS4.out.1
    obtain ⟨z0, z1, z2, z3⟩ := four_cells HS4.out.2.2.1
    go_wp2_with fail
    refine (HEN'.out _ HS4.out.2.2.2).mono ?_
    rintro e w5 ⟨A4, n4, c4, rfl, hs4, hy4, hx4, hb5⟩
    have HS5 := Lib.hid (HS4.out.next hb5 (by rfl) (by rfl) (by rfl) (by rfl))
    have HY4 := Lib.hid hy4
    have HX5 := Lib.hid hb5
    clear hs4 hy4 hx4 hb5 y0 y1 y2 z0 z1 z2 z3
    by_cases h1 : er = 0
    · by_cases h2 : er' = 0
      · have HSM : Hid (decide (en = en') = sm) := HAP.out h1 h2
        have hLN := HLN.out.resolve_right (fun h => h.elim (fun e => e h1) (fun e => e h2))
        have hY3 := HY3.out h1
        have hY4 := HY4.out h2
        subst h1 h2
        obtain ⟨hn3, hbs3⟩ := hY3
        obtain ⟨hn4, hbs4⟩ := hY4
        subst hn3 hn4
        have HRE : Hid (∀ W, Below w5.heap.size w5 W → Calls Tryd.prog 17 #[.slice A3 en.length c3, .slice A4 en'.length c4] W (SaysQuiet sm W)) := fun W hW => by
          have h := refeq_any A3 A4 w4.heap.size w5.heap.size en.length en'.length c3 c4 en en' W rfl rfl hLN.1 hLN.2 ((hbs3.bs.below HX5.out (Nat.le_refl _)).below hW HX5.out.size) (hbs4.bs.below hW (Nat.le_refl _))
          rwa [HSM.out] at h
        clear hbs3 hbs4 hLN HY3 HY4 HAP HLN
        obtain ⟨y0, y1, y2, y3⟩ := four_cells HS5.out.2.1
        obtain ⟨z0, z1, z2, z3⟩ := four_cells HS5.out.2.2.1
        go_wp2_with fail
        go_region_held3 (fun W => (W.cell? ⟨w.heap.size + 1, 0, none⟩ = some (.int .i64 kd) ∧ W.cell? ⟨w.heap.size + 1, 1, none⟩ = some (.slice A1 m1 c1) ∧ W.cell? ⟨w.heap.size + 1, 2, none⟩ = some (.slice A2 m2 c2) ∧ W.cell? ⟨w.heap.size + 1, 3, none⟩ = some (.int .i64 x)) ∧ (W.cell? ⟨w.heap.size + 2, 0, none⟩ = some (.int .i64 kd') ∧ W.cell? ⟨w.heap.size + 2, 1, none⟩ = some (.slice B1 r1 d1) ∧ W.cell? ⟨w.heap.size + 2, 2, none⟩ = some (.slice B2 r2 d2) ∧ W.cell? ⟨w.heap.size + 2, 3, none⟩ = some (.int .i64 x')))
          (first
            | go_keep
            | exact ⟨cells4 HS6.out.2.1, cells4 HS6.out.2.2.1⟩
            | exact ⟨cells4 HS7.out.2.1, cells4 HS7.out.2.2.1⟩)
          (first
            | (go_at_call 11; refine (HAW.out _ (below_drawn HS5.out.2.2.2 1)).mono ?_; rintro e w6 ⟨rfl, hb6⟩; have HS6 := Lib.hid (HS5.out.next hb6 (by rfl) (by rfl) (by rfl) (by rfl)); have HX6 : Hid (Below w5.heap.size w5 w6) := ⟨hb6.os, hb6.tape, hb6.output, hb6.size, hb6.block⟩; clear hb6)
            | (go_at_call 17; refine (HRE.out _ HX6.out).mono ?_; rintro e w9 ⟨rfl, q9, rfl⟩)
            | (go_at_call 20; refine (HEQ.out _ (below_drawn HS6.out.2.2.2 _)).mono ?_; rintro e w7 ⟨rfl, hb7⟩; have HS7 := Lib.hid (HS6.out.next hb7 (by rfl) (by rfl) (by rfl) (by rfl)); clear hb7))
        all_goals
          go_wp2
          go_ret
          exact ⟨ret_bool (by simp), HS7.out.2.2.2⟩
      · have f1 : (er' != 0) = true := by rw [bne_iff_ne]; exact h2
        subst h1
        clear h2 HY3 HY4 HAP HLN
        go_wp2_with (go_at_call 11; refine (HAW.out _ HS5.out.2.2.2).mono ?_; rintro e w6 ⟨rfl, hb6⟩; have HS6 := Lib.hid (HS5.out.next hb6 (by rfl) (by rfl) (by rfl) (by rfl)); clear hb6)
        go_ret
        exact ⟨rfl, HS6.out.2.2.2⟩
    · have f1 : (er != 0) = true := by rw [bne_iff_ne]; exact h1
      clear h1 HY3 HY4 HAP HLN
      go_wp2_with (go_at_call 11; refine (HAW.out _ HS5.out.2.2.2).mono ?_; rintro e w6 ⟨rfl, hb6⟩; have HS6 := Lib.hid (HS5.out.next hb6 (by rfl) (by rfl) (by rfl) (by rfl)); clear hb6)
      go_ret
      exact ⟨rfl, HS6.out.2.2.2⟩
end Go.Proofs.YtgonpmfjfmmfoaaDoor
