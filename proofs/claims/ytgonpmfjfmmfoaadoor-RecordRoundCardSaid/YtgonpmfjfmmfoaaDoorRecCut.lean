/-
  The walk of the statement on a record of which the end is missing.
-/
import Derived.Test.YtgonpmfjfmmfoaaDoorRecLengths
namespace Go.Proofs.YtgonpmfjfmmfoaaDoor
open Go.RowKit
/-- Two blocks stay as they are, and so does all that was there at first. -/
def Sd2 (w : World) (o0 o1 : Obj) (W : World) : Prop := W.heap[w.heap.size]? = some o0 ∧ W.heap[w.heap.size + 1]? = some o1 ∧ Below w.heap.size w W
theorem Sd2.next {w W W' W'' : World} {o0 o1 : Obj} (h : Sd2 w o0 o1 W) (k : Below W'.heap.size W' W'') (e1 : W'.heap = W.heap) (e2 : W'.os = W.os) (e3 : W'.tape = W.tape) (e4 : W'.output = W.output) : Sd2 w o0 o1 W'' := by
  have a : Sd w w.heap.size o0 W'' := Sd.next ⟨h.1, h.2.2⟩ k e1 e2 e3 e4
  have b : Sd w (w.heap.size + 1) o1 W'' := Sd.next ⟨h.2.1, h.2.2⟩ k e1 e2 e3 e4
  exact ⟨a.1, b.1, a.2⟩
theorem Sd2.drawn {w W : World} {o0 o1 : Obj} (h : Sd2 w o0 o1 W) (k : Nat) : Sd2 w o0 o1 (W.drewN k) := ⟨h.1, h.2.1, below_drawn h.2.2 k⟩
theorem sd2_box {w w1 : World} {o0 o1 : Obj} {a b c a' b' c' d' : Value} {t t' : TypeId} (e0 : o0 = .cells #[a, b, c] t) (e1 : o1 = .cells #[a', b', c', d'] t') (hb : Below ((w.alloc o0).alloc o1).heap.size ((w.alloc o0).alloc o1) w1) : Sd2 w (.cells #[a, b, c] t (0, 0)) (.cells #[a', b', c', d'] t' (0, 0)) w1 := by
  subst e0 e1
  have hs : (w.alloc (.cells #[a, b, c] t)).heap.size = w.heap.size + 1 := by simp
  refine ⟨(hb.block _ (by simp; omega)).trans ((heap_alloc_old _ _ (by simp)).trans (heap_alloc_new w _)), ?_, (((Below.refl _ w).alloc (Nat.le_refl _) _).alloc (by simp) _).trans (hb.mono (by simp; omega))⟩
  exact (hb.block _ (by simp)).trans (alloc_at hs.symm)
theorem sd2_stored {w w1 : World} {o0 : Obj} {a b c d a' b' c' d' : Value} {t : TypeId} (h : Sd2 w o0 (.cells #[a, b, c, d] t (0, 0)) w1) :
    Sd2 w o0 (.cells #[a', b', c', d'] t (0, 0)) ((((w1.setCell ⟨w.heap.size + 1, 0, none⟩ a').setCell ⟨w.heap.size + 1, 1, none⟩ b').setCell ⟨w.heap.size + 1, 2, none⟩ c').setCell ⟨w.heap.size + 1, 3, none⟩ d') :=
  ⟨((stored_grown w1 (w.heap.size + 1) a' b' c' d').block _ (Array.getElem?_eq_some_iff.1 h.1).1 (fun e => by injection e with e; omega)).trans h.1, stored h.2.1, h.2.2.trans (below_of_grown (stored_grown _ _ _ _ _ _) (by omega) h.2.2.size)⟩
theorem three_cells {w : World} {g : Nat} {a b c : Value} {t : TypeId} (h : w.heap[g]? = some (.cells #[a, b, c] t (0, 0))) :
    w.cell? ⟨g, 0, none⟩ = some a ∧ w.cell? ⟨g, 1, none⟩ = some b ∧ w.cell? ⟨g, 2, none⟩ = some c := by
  refine ⟨?_, ?_, ?_⟩
  · rw [cell_of_row w g 0 _ t (0, 0) h]; rfl
  · rw [cell_of_row w g 1 _ t (0, 0) h]; rfl
  · rw [cell_of_row w g 2 _ t (0, 0) h]; rfl
theorem stored_far {w : World} {r g : Nat} {o : Obj} {a b c d : Value} (h : w.heap[g]? = some o) (hne : g < r) : ((((w.setCell ⟨r, 0, none⟩ a).setCell ⟨r, 1, none⟩ b).setCell ⟨r, 2, none⟩ c).setCell ⟨r, 3, none⟩ d).heap[g]? = some o :=
  ((stored_grown w r a b c d).block g (Array.getElem?_eq_some_iff.1 h).1 (fun e => by injection e with e; omega)).trans h
/-- The zero record is the zero record. -/
theorem zeq_any (w : World) : Calls Tryd.prog 20 #[.agg #[.int .i64 0, .slice none 0 0, .slice none 0 0, .int .i64 0], .agg #[.int .i64 0, .slice none 0 0, .slice none 0 0, .int .i64 0]] w fun e w' => e = .returned (.bool true) ∧ Below w.heap.size w w' := by
  have hnil : ∀ B, ([] : List Nat).length = 0 ∧ Bs w B none [] := fun B => ⟨rfl, fun k hk => absurd hk (by simp)⟩
  have h := receq_any 0 0 0 0 none none none none 0 0 0 0 0 0 0 0 0 0 [] [] [] [] w (Nat.zero_le _) (Nat.zero_le _) (hnil 0) (hnil 0) (hnil 0) (hnil 0) ⟨by omega, by omega, by omega, by omega⟩
  rwa [Rc.same_self] at h
/-- '(n%L + L) % L' as the walk writes it. -/
theorem wrap_mod (n : Int) (L : Nat) (h : 0 < L) (hL : L ≤ 70368744177664) : ∃ (t : Int) (m : Nat), n.tmod (L : Int) = t ∧ -(L : Int) < t ∧ t < (L : Int) ∧ (t + (L : Int)).tmod (L : Int) = (m : Int) ∧ m < L := by
  have h1 : (n.tmod (L : Int)).natAbs = n.natAbs % L := Int.natAbs_tmod n L
  have h2 := Nat.mod_lt n.natAbs h
  have h3 : 0 ≤ n.tmod (L : Int) + (L : Int) := by omega
  refine ⟨_, ((n.tmod (L : Int) + (L : Int)) % (L : Int)).toNat, rfl, by omega, by omega, ?_, ?_⟩
  · rw [Int.tmod_eq_emod_of_nonneg h3]
    have := Int.emod_nonneg (n.tmod (L : Int) + (L : Int)) (show (L : Int) ≠ 0 by omega)
    omega
  · have h4 := Int.emod_lt_of_pos (n.tmod (L : Int) + (L : Int)) (show (0 : Int) < (L : Int) by omega)
    have := Int.emod_nonneg (n.tmod (L : Int) + (L : Int)) (show (L : Int) ≠ 0 by omega)
    omega
set_option maxHeartbeats 1000000 in
theorem recordcut_any (v seq off kd x nn : Int) (A1 A2 : Option Addr) (n1 n2 c1 c2 : Nat) (k l : List Nat) (w : World) (hsq : seq ≤ 9223372036854775807) (hs1 : SlIs A1 n1 c1) (hs2 : SlIs A2 n2 c2) (hk : Hid (k.length = n1 ∧ Bs w w.heap.size A1 k)) (hv : Hid (l.length = n2 ∧ Bs w w.heap.size A2 l)) (ht : Hid (TabW w)) (hz : 0 < w.heap.size) :
    Calls Tryd.prog 7 #[.agg #[.int .i64 v, .int .i64 seq, .int .i64 off], .agg #[.int .i64 kd, .slice A1 n1 c1, .slice A2 n2 c2, .int .i64 x], .int .i64 nn] w fun e w' => e = .returned (.bool true) ∧ Below w.heap.size w w' := by
  obtain ⟨m1, hm1⟩ := min_is n1 260
  obtain ⟨m2, hm2⟩ := min_is n2 200
  have HSH := Lib.hid (fun W => short_any kd x A1 A2 n1 n2 c1 c2 m1 m2 W hs1 hs2 hm1 hm2)
  have HEN : Hid (∀ W, Below w.heap.size w W → Calls Tryd.prog 16 #[.int .i64 v, .int .i64 seq, .int .i64 off, .agg #[.int .i64 kd, .slice A1 m1 c1, .slice A2 m2 c2, .int .i64 x]] W (EncR W v seq off ⟨kd, k.take m1, l.take m2, x⟩)) := fun W hW => by
    obtain ⟨a1, a2⟩ := min_bs hk.out.1 hk.out.2 hm1
    obtain ⟨b1, b2⟩ := min_bs hv.out.1 hv.out.2 hm2
    exact encode_any v seq off kd x _ _ A1 w.heap.size m1 c1 A2 m2 c2 W hW.size hsq (min_sl hs1 hm1) (min_sl hs2 hm2) ⟨a1, a2.below hW (Nat.le_refl _)⟩ ⟨b1, b2.below hW (Nat.le_refl _)⟩ (ht.out.below hW hz) (Nat.lt_of_lt_of_le hz hW.size)
  have HAW : Hid (∀ W, Below w.heap.size w W → Calls Tryd.prog 11 #[] W fun e w' => e = .returned (.bool true) ∧ Below W.heap.size W w') := fun W hW => awake_any W (ht.out.below hW hz) (Nat.lt_of_lt_of_le hz hW.size)
  have hLmax : Rc.len ⟨kd, k.take m1, l.take m2, x⟩ ≤ 70368744177664 := by
    unfold Rc.len
    simp only [List.length_take]
    unfold MinIs at hm1 hm2
    omega
  have hLmin : 0 < Rc.len ⟨kd, k.take m1, l.take m2, x⟩ := by unfold Rc.len; omega
  clear hs1 hs2 hm1 hm2
  unfold EncR at HEN
  have hlen := Rc.enc_length v seq off ⟨kd, k.take m1, l.take m2, x⟩
  rw [hlen] at HEN
  by_cases h0 : Rc.err v seq off ⟨kd, k.take m1, l.take m2, x⟩ = 0
  · obtain ⟨tt, m, e1, t1, t2, e2, hmL⟩ := wrap_mod nn _ hLmin hLmax
    have HDEC : Hid (∀ (W : World) (A : Option Addr) (c : Nat), Below w.heap.size w W → SlIs A (Rc.len ⟨kd, k.take m1, l.take m2, x⟩) c → Bs W W.heap.size A (Rc.enc v seq off ⟨kd, k.take m1, l.take m2, x⟩) → Calls Tryd.prog 19 #[.int .i64 v, .int .i64 seq, .int .i64 off, .slice A m c] W (NoRec W)) := fun W A c hW hs hb =>
      decode_not v seq off A W.heap.size m c _ W (Nat.le_refl _) hsq (fun e => ⟨(hs.1 e).1, by have := hs.1 e; omega⟩) (by have := hs.2.1; omega) hs.2.2 (by show _ = _; rw [List.length_take, hlen]; omega) (hb.take m) (ht.out.below hW hz) (Nat.lt_of_lt_of_le hz hW.size) (Rc.cut v seq off _ m (err_zero.1 h0).1 hmL seq off)
    rw [h0] at HEN
    generalize Rc.enc v seq off ⟨kd, k.take m1, l.take m2, x⟩ = en at HEN HDEC
    generalize Rc.len ⟨kd, k.take m1, l.take m2, x⟩ = L at HEN HDEC e1 t1 t2 e2 hmL hLmax hLmin
    have hne : ((L : Int) == 0) = false := by simp; omega
    clear h0 hlen
    go_enter Tryd.func7, Tryd.ntmps7
    go_wp2_with fail
    refine (HSH.out _).mono ?_
    rintro e w1 ⟨rfl, hb1⟩
    have HS1 := Lib.hid (sd2_box rfl rfl hb1); clear hb1
    obtain ⟨z0, z1, z2, z3⟩ := four_cells HS1.out.2.1
    obtain ⟨g0, g1, g2, g3⟩ := four_frozen HS1.out.2.1
    have HS2 := Lib.hid (sd2_stored (a' := .int .i64 kd) (b' := .slice A1 m1 c1) (c' := .slice A2 m2 c2) (d' := .int .i64 x) HS1.out)
    obtain ⟨y0, y1, y2⟩ := three_cells HS2.out.1
    go_wp2_with fail
    generalize ((((w1.setCell ⟨w.heap.size + 1, 0, none⟩ (.int .i64 kd)).setCell ⟨w.heap.size + 1, 1, none⟩ (.slice A1 m1 c1)).setCell ⟨w.heap.size + 1, 2, none⟩ (.slice A2 m2 c2)).setCell ⟨w.heap.size + 1, 3, none⟩ (.int .i64 x)) = w2 at *
    clear z0 z1 z2 z3 g0 g1 g2 g3 y0 y1 y2
    refine (HEN.out _ HS2.out.2.2).mono ?_
    rintro e w3 ⟨A3, n3, c3, rfl, hs3, hy3, hx3, hb3⟩
    have HS3 := Lib.hid (HS2.out.next hb3 (by rfl) (by rfl) (by rfl) (by rfl)); clear hb3
    obtain ⟨rfl, hbs3⟩ := hy3 trivial
    have HE3 : Hid (SlIs A3 n3 c3 ∧ Bs w3 w3.heap.size A3 en) := ⟨hs3, hbs3.bs⟩
    have hc3 := hs3.2.1
    have hc3' := hs3.2.2
    clear hx3 hy3 hs3 hbs3
    obtain ⟨y0, y1, y2⟩ := three_cells HS3.out.1
    have i1 : (m : Int) ≤ (c3 : Int) := by omega
    go_wp2_with fail
    have HZ3 : Hid (w.heap.size < w3.heap.size) := (Array.getElem?_eq_some_iff.1 HS3.out.1).1
    have HDB : Hid (∀ o, Calls Tryd.prog 19 #[.int .i64 v, .int .i64 seq, .int .i64 off, .slice A3 m c3] (w3.alloc o).drew (NoRec (w3.alloc o))) := fun o => by
      have hal : Below w3.heap.size w3 (w3.alloc o) := (Below.refl _ _).alloc (Nat.le_refl _) o
      exact (HDEC.out (w3.alloc o).drew A3 c3 (below_drawn (HS3.out.2.2.trans (hal.mono HS3.out.2.2.size)) 1) HE3.out.1 ((HE3.out.2.below hal (Nat.le_refl _)).more hal.size)).mono fun _ _ h => ⟨h.1, h.2.os, h.2.tape, h.2.output, h.2.size, h.2.block⟩
    have HDA : Hid (Calls Tryd.prog 19 #[.int .i64 v, .int .i64 seq, .int .i64 off, .slice A3 m c3] w3.drew (NoRec w3)) :=
      (HDEC.out w3.drew A3 c3 (below_drawn HS3.out.2.2 1) HE3.out.1 HE3.out.2).mono fun _ _ h => ⟨h.1, h.2.os, h.2.tape, h.2.output, h.2.size, h.2.block⟩
    go_region_held3 (fun W => W.cell? ⟨w.heap.size, 0, none⟩ = some (.int .i64 v) ∧ W.cell? ⟨w.heap.size, 1, none⟩ = some (.int .i64 seq) ∧ W.cell? ⟨w.heap.size, 2, none⟩ = some (.int .i64 off))
      (first
        | go_keep
        | exact three_cells HS4.out.1
        | exact three_cells (stored_far HS4.out.1 HZ3.out))
      (first
        | (go_at_call 19; refine (HDB.out _).mono ?_; rintro e w4 ⟨rfl, hb4⟩; have HS4 : Hid (Sd2 w _ _ w4) := HS3.out.next (Below.trans ((Below.refl _ w3).alloc (Nat.le_refl _) _) (hb4.mono (by simp))) rfl rfl rfl rfl; have HT4 := Lib.hid (boxed hb4); obtain ⟨z0, z1, z2, z3⟩ := four_cells HT4.out; obtain ⟨g0, g1, g2, g3⟩ := four_frozen HT4.out; clear hb4)
        | (go_at_call 19; refine HDA.out.mono ?_; rintro e w4 ⟨rfl, hb4⟩; have HS4 : Hid (Sd2 w _ _ w4) := HS3.out.next hb4 rfl rfl rfl rfl; clear hb4))
    all_goals
      first
        | have HT := Lib.hid (sd_stored (a' := .int .i64 0) (b' := .slice none 0 0) (c' := .slice none 0 0) (d' := .int .i64 0) ⟨HT4.out, HS4.out.2.2⟩ (Nat.le_of_lt HZ3.out)); clear z0 z1 z2 z3 g0 g1 g2 g3
        | have HT : Hid (Sd w w4.heap.size (.cells #[.int .i64 0, .slice none 0 0, .slice none 0 0, .int .i64 0] 24 (0, 0)) (w4.alloc (.cells #[.int .i64 0, .slice none 0 0, .slice none 0 0, .int .i64 0] 24))) := ⟨heap_alloc_new _ _, HS4.out.2.2.alloc HS4.out.2.2.size _⟩
      go_wp2_with fail
      refine (HAW.out _ HT.out.2).mono ?_
      rintro e w5 ⟨rfl, hb5⟩
      have HT5 := Lib.hid (HT.out.next hb5 (by rfl) (by rfl) (by rfl) (by rfl)); clear hb5
      obtain ⟨z0, z1, z2, z3⟩ := four_cells HT5.out.1
      go_wp2_with fail
      refine (zeq_any _).mono ?_
      rintro e w6 ⟨rfl, hb6⟩
      have HT6 := Lib.hid (HT5.out.next hb6 (by rfl) (by rfl) (by rfl) (by rfl)); clear hb6
      go_wp2
      go_ret
      exact ⟨rfl, HT6.out.2⟩
  · have f1 : (Rc.err v seq off ⟨kd, k.take m1, l.take m2, x⟩ != 0) = true := by rw [bne_iff_ne]; exact h0
    generalize Rc.err v seq off ⟨kd, k.take m1, l.take m2, x⟩ = q at HEN f1
    clear h0 hlen
    go_enter Tryd.func7, Tryd.ntmps7
    go_wp2_with fail
    refine (HSH.out _).mono ?_
    rintro e w1 ⟨rfl, hb1⟩
    have HS1 := Lib.hid (sd2_box rfl rfl hb1); clear hb1
    obtain ⟨z0, z1, z2, z3⟩ := four_cells HS1.out.2.1
    obtain ⟨g0, g1, g2, g3⟩ := four_frozen HS1.out.2.1
    have HS2 := Lib.hid (sd2_stored (a' := .int .i64 kd) (b' := .slice A1 m1 c1) (c' := .slice A2 m2 c2) (d' := .int .i64 x) HS1.out)
    obtain ⟨y0, y1, y2⟩ := three_cells HS2.out.1
    go_wp2_with fail
    generalize ((((w1.setCell ⟨w.heap.size + 1, 0, none⟩ (.int .i64 kd)).setCell ⟨w.heap.size + 1, 1, none⟩ (.slice A1 m1 c1)).setCell ⟨w.heap.size + 1, 2, none⟩ (.slice A2 m2 c2)).setCell ⟨w.heap.size + 1, 3, none⟩ (.int .i64 x)) = w2 at *
    clear z0 z1 z2 z3 g0 g1 g2 g3 y0 y1 y2
    refine (HEN.out _ HS2.out.2.2).mono ?_
    rintro e w3 ⟨A3, n3, c3, rfl, -, -, -, hb3⟩
    have HS3 := Lib.hid (HS2.out.next hb3 (by rfl) (by rfl) (by rfl) (by rfl)); clear hb3
    go_wp2_with (go_at_call 11; refine (HAW.out _ HS3.out.2.2).mono ?_; rintro e w4 ⟨rfl, hb4⟩; have HS4 := Lib.hid (HS3.out.next hb4 (by rfl) (by rfl) (by rfl) (by rfl)); clear hb4)
    go_ret
    exact ⟨rfl, HS4.out.2.2⟩
end Go.Proofs.YtgonpmfjfmmfoaaDoor
