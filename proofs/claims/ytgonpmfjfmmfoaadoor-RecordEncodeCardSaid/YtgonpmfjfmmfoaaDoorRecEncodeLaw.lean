/-
  The walk of the statement on Encode.
-/
import Derived.Test.YtgonpmfjfmmfoaaDoorRecRefEncode2
namespace Go.Proofs.YtgonpmfjfmmfoaaDoor
open Go.RowKit
theorem refencode_any (v seq off kd x : Int) (key val : List Nat) (A : Option Addr) (B n c : Nat) (A' : Option Addr) (n' c' : Nat) (w : World) (h : Rc.check v ⟨kd, key, val, x⟩ = 0) (hp : Rc.place seq off) (hB : B ≤ w.heap.size) (hsq : seq ≤ 9223372036854775807)
    (hk : SlIs A n c ∧ key.length = n ∧ Bs w B A key) (hv : SlIs A' n' c' ∧ val.length = n' ∧ Bs w B A' val) :
    Calls Tryd.prog 18 #[.int .i64 v, .int .i64 seq, .int .i64 off, .agg #[.int .i64 kd, .slice A n c, .slice A' n' c', .int .i64 x]] w fun e w' => ∃ A3 c3, e = .returned (.slice A3 (Rc.enc v seq off ⟨kd, key, val, x⟩).length c3) ∧ SlIs A3 (Rc.enc v seq off ⟨kd, key, val, x⟩).length c3 ∧ Bs w' w'.heap.size A3 (Rc.enc v seq off ⟨kd, key, val, x⟩) ∧ Below w.heap.size w w' := by
  rcases (Rc.chk_ok h).1 with rfl | rfl
  · exact refencode1 seq off kd x key val A B n c A' n' c' w h hp hB hsq hk hv
  · exact refencode2 seq off kd x key val A B n c A' n' c' w h hp hB hsq hk hv
set_option maxHeartbeats 2000000 in
theorem recordencode_any (v seq off kd x : Int) (A1 A2 : Option Addr) (n1 n2 c1 c2 : Nat) (k l : List Nat) (w : World) (hsq : seq ≤ 9223372036854775807) (hs1 : SlIs A1 n1 c1) (hs2 : SlIs A2 n2 c2) (hk : Hid (k.length = n1 ∧ Bs w w.heap.size A1 k)) (hv : Hid (l.length = n2 ∧ Bs w w.heap.size A2 l)) (ht : Hid (TabW w)) (hz : 0 < w.heap.size) :
    Calls Tryd.prog 4 #[.agg #[.int .i64 v, .int .i64 seq, .int .i64 off], .agg #[.int .i64 kd, .slice A1 n1 c1, .slice A2 n2 c2, .int .i64 x]] w fun e w' => e = .returned (.bool true) ∧ Below w.heap.size w w' := by
  obtain ⟨m1, hm1⟩ := min_is n1 260
  obtain ⟨m2, hm2⟩ := min_is n2 200
  have HSH := Lib.hid (fun W => short_any kd x A1 A2 n1 n2 c1 c2 m1 m2 W hs1 hs2 hm1 hm2)
  obtain ⟨a1, a2⟩ := min_bs hk.out.1 hk.out.2 hm1
  obtain ⟨b1, b2⟩ := min_bs hv.out.1 hv.out.2 hm2
  have q1 := min_sl hs1 hm1
  have q2 := min_sl hs2 hm2
  have HEN : Hid (∀ W, Below w.heap.size w W → Calls Tryd.prog 16 #[.int .i64 v, .int .i64 seq, .int .i64 off, .agg #[.int .i64 kd, .slice A1 m1 c1, .slice A2 m2 c2, .int .i64 x]] W (EncR W v seq off ⟨kd, k.take m1, l.take m2, x⟩)) := fun W hW =>
    encode_any v seq off kd x _ _ A1 w.heap.size m1 c1 A2 m2 c2 W hW.size hsq q1 q2 ⟨a1, a2.below hW (Nat.le_refl _)⟩ ⟨b1, b2.below hW (Nat.le_refl _)⟩ (ht.out.below hW hz) (Nat.lt_of_lt_of_le hz hW.size)
  have HRF : Hid (Rc.chk v kd m1 m2 x = 0 → Rc.place seq off → ∀ W, Below w.heap.size w W → Calls Tryd.prog 18 #[.int .i64 v, .int .i64 seq, .int .i64 off, .agg #[.int .i64 kd, .slice A1 m1 c1, .slice A2 m2 c2, .int .i64 x]] W fun e w' => ∃ A3 c3, e = .returned (.slice A3 (Rc.enc v seq off ⟨kd, k.take m1, l.take m2, x⟩).length c3) ∧ SlIs A3 (Rc.enc v seq off ⟨kd, k.take m1, l.take m2, x⟩).length c3 ∧ Bs w' w'.heap.size A3 (Rc.enc v seq off ⟨kd, k.take m1, l.take m2, x⟩) ∧ Below W.heap.size W w') := fun hck hpl W hW =>
    refencode_any v seq off kd x _ _ A1 w.heap.size m1 c1 A2 m2 c2 W (by unfold Rc.check; simp only; rw [a1, b1]; exact hck) hpl hW.size hsq ⟨q1, a1, a2.below hW (Nat.le_refl _)⟩ ⟨q2, b1, b2.below hW (Nat.le_refl _)⟩
  have HAW : Hid (∀ W, Below w.heap.size w W → Calls Tryd.prog 11 #[] W fun e w' => e = .returned (.bool true) ∧ Below W.heap.size W w') := fun W hW => awake_any W (ht.out.below hW hz) (Nat.lt_of_lt_of_le hz hW.size)
  have HCK := Lib.hid (fun W => refcheck_any v kd A1 m1 c1 A2 m2 c2 x W)
  have herr : Rc.err v seq off ⟨kd, k.take m1, l.take m2, x⟩ = if Rc.chk v kd m1 m2 x ≠ 0 then Rc.chk v kd m1 m2 x else if Rc.place seq off then 0 else 2 := by
    unfold Rc.err Rc.check
    simp only
    rw [a1, b1]
  have HLN : Hid (Rc.chk v kd m1 m2 x = 0 → (Rc.enc v seq off ⟨kd, k.take m1, l.take m2, x⟩).length ≤ 140737488355328) := fun hck => by
    obtain ⟨-, -, h1, h2, -⟩ := Rc.chk_ok hck
    show _ ≤ _
    rw [Rc.enc_length]
    unfold Rc.len
    simp only
    rw [a1, b1]; omega
  clear a1 a2 b1 b2 q1 q2 hs1 hs2 hm1 hm2
  unfold EncR at HEN
  rw [herr] at HEN
  clear herr
  generalize Rc.enc v seq off ⟨kd, k.take m1, l.take m2, x⟩ = en at HEN HRF HLN
  generalize hq : Rc.chk v kd m1 m2 x = q at HEN HRF HLN HCK
  clear hq
  by_cases h0 : q = 0
  · subst h0
    rw [if_neg (show ¬ ((0 : Int) ≠ 0) by decide)] at HEN
    by_cases hp : Rc.place seq off
    · rw [if_pos hp] at HEN
      have HRR := Lib.hid (HRF.out rfl hp)
      have hLN := HLN.out rfl
      obtain ⟨p1, p2, p3⟩ := hp
      have f1 : decide (seq < 0) = false := by simp; omega
      have f2 : decide (off < 0) = false := by simp; omega
      have f3 : decide (2147483647 < off) = false := by simp; omega
      clear HRF HLN
      go_enter Tryd.func4, Tryd.ntmps4
      go_wp2_with fail
      refine (HSH.out _).mono ?_
      rintro e w1 ⟨rfl, hb1⟩
      have HS1 := Lib.hid (sd2_box rfl rfl hb1); clear hb1
      obtain ⟨z0, z1, z2, z3⟩ := four_cells HS1.out.2.1
      obtain ⟨g0, g1, g2, g3⟩ := four_frozen HS1.out.2.1
      have HS2 := Lib.hid (sd2_stored (a' := .int .i64 kd) (b' := .slice A1 m1 c1) (c' := .slice A2 m2 c2) (d' := .int .i64 x) HS1.out)
      obtain ⟨y0, y1, y2⟩ := three_cells HS2.out.1
      go_wp2_with fail
      generalize ((((w1.setCell ⟨w.heap.size + 1, 0, none⟩ (.int .i64 kd)).setCell ⟨w.heap.size + 1, 1, none⟩ (.slice A1 m1 c1)).setCell ⟨w.heap.size + 1, 2, none⟩ (.slice A2 m2 c2)).setCell ⟨w.heap.size + 1, 3, none⟩ (.int .i64 x)) = w2 at *
      clear z0 z1 z2 z3 g0 g1 g2 g3 y0 y1 y2
      refine (HEN.out _ HS2.out.2.2).mono ?_
      rintro e w3 ⟨A3, n3, c3, rfl, hs3, hy3, hx3, hb3⟩
      have HS3 := Lib.hid (HS2.out.next hb3 (by rfl) (by rfl) (by rfl) (by rfl)); clear hb3
      obtain ⟨rfl, hbs3⟩ := hy3 trivial
      have HE3 : Hid (Bs w3 w3.heap.size A3 en) := hbs3.bs
      clear hs3 hx3 hbs3 hy3
      obtain ⟨y0, y1, y2⟩ := three_cells HS3.out.1
      obtain ⟨z0, z1, z2, z3⟩ := four_cells HS3.out.2.1
      go_wp2_with fail
      refine (HCK.out _).mono ?_
      rintro e w4 ⟨rfl, hb4⟩
      have HS4 := Lib.hid (HS3.out.next hb4 (by rfl) (by rfl) (by rfl) (by rfl))
      have HX4 := Lib.hid hb4
      clear hb4 y0 y1 y2 z0 z1 z2 z3
      obtain ⟨y0, y1, y2⟩ := three_cells HS4.out.1
      go_wp2_with fail
      refine (HAW.out _ HS4.out.2.2).mono ?_
      rintro e w5 ⟨rfl, hb5⟩
      have HS5 := Lib.hid (HS4.out.next hb5 (by rfl) (by rfl) (by rfl) (by rfl))
      have HX5 : Hid (Below w3.heap.size w3 w5) := HX4.out.trans (hb5.mono HX4.out.size)
      clear hb5 y0 y1 y2
      obtain ⟨y0, y1, y2⟩ := three_cells HS5.out.1
      obtain ⟨z0, z1, z2, z3⟩ := four_cells HS5.out.2.1
      go_wp2_with fail
      refine (HRR.out _ HS5.out.2.2).mono ?_
      rintro e w6 ⟨A6, c6, rfl, hs6, hbs6, hb6⟩
      have HS6 := Lib.hid (HS5.out.next hb6 (by rfl) (by rfl) (by rfl) (by rfl))
      have HEQ : Hid (Calls Tryd.prog 17 #[.slice A3 en.length c3, .slice A6 en.length c6] w6 (SaysQuiet true w6)) := by
        have h := refeq_any A3 A6 w3.heap.size w6.heap.size en.length en.length c3 c6 en en w6 rfl rfl hLN hLN (HE3.out.below (HX5.out.trans (hb6.mono HX5.out.size)) (Nat.le_refl _)) hbs6
        rwa [decide_eq_true rfl] at h
      clear hs6 hbs6 hb6 y0 y1 y2 z0 z1 z2 z3
      go_wp2_with fail
      refine HEQ.out.mono ?_
      rintro e w7 ⟨rfl, q7, rfl⟩
      go_wp2
      go_ret
      exact ⟨rfl, below_drawn HS6.out.2.2 _⟩
    · rw [if_neg hp] at HEN
      have hp' : decide (seq < 0) = true ∨ (decide (seq < 0) = false ∧ (decide (off < 0) = true ∨ (decide (off < 0) = false ∧ decide (2147483647 < off) = true))) := by
        unfold Rc.place at hp
        simp
        omega
      clear hp HRF HLN
      rcases hp' with f1 | ⟨f1, f2 | ⟨f2, f3⟩⟩
      all_goals
        go_enter Tryd.func4, Tryd.ntmps4
        go_wp2_with fail
        refine (HSH.out _).mono ?_
        rintro e w1 ⟨rfl, hb1⟩
        have HS1 := Lib.hid (sd2_box rfl rfl hb1); clear hb1
        obtain ⟨z0, z1, z2, z3⟩ := four_cells HS1.out.2.1
        obtain ⟨g0, g1, g2, g3⟩ := four_frozen HS1.out.2.1
        have HS2 := Lib.hid (sd2_stored (a' := .int .i64 kd) (b' := .slice A1 m1 c1) (c' := .slice A2 m2 c2) (d' := .int .i64 x) HS1.out)
        obtain ⟨y0, y1, y2⟩ := three_cells HS2.out.1
        go_wp2_with fail
        generalize ((((w1.setCell ⟨w.heap.size + 1, 0, none⟩ (.int .i64 kd)).setCell ⟨w.heap.size + 1, 1, none⟩ (.slice A1 m1 c1)).setCell ⟨w.heap.size + 1, 2, none⟩ (.slice A2 m2 c2)).setCell ⟨w.heap.size + 1, 3, none⟩ (.int .i64 x)) = w2 at *
        clear z0 z1 z2 z3 g0 g1 g2 g3 y0 y1 y2
        refine (HEN.out _ HS2.out.2.2).mono ?_
        rintro e w3 ⟨A3, n3, c3, rfl, hs3, hy3, hx3, hb3⟩
        have HS3 := Lib.hid (HS2.out.next hb3 (by rfl) (by rfl) (by rfl) (by rfl)); clear hb3
        obtain rfl := hx3 (by decide)
        clear hs3 hx3 hy3
        obtain ⟨y0, y1, y2⟩ := three_cells HS3.out.1
        obtain ⟨z0, z1, z2, z3⟩ := four_cells HS3.out.2.1
        go_wp2_with fail
        refine (HCK.out _).mono ?_
        rintro e w4 ⟨rfl, hb4⟩
        have HS4 := Lib.hid (HS3.out.next hb4 (by rfl) (by rfl) (by rfl) (by rfl))
        clear hb4 y0 y1 y2 z0 z1 z2 z3
        obtain ⟨y0, y1, y2⟩ := three_cells HS4.out.1
        go_wp2_with fail
        refine (HAW.out _ HS4.out.2.2).mono ?_
        rintro e w5 ⟨rfl, hb5⟩
        have HS5 := Lib.hid (HS4.out.next hb5 (by rfl) (by rfl) (by rfl) (by rfl))
        clear hb5 y0 y1 y2
        go_wp2
        go_ret
        exact ⟨rfl, HS5.out.2.2⟩
  · rw [if_pos h0] at HEN
    have f0 : (q == 0) = false := by simp; exact h0
    have f1 : (q != 0) = true := by rw [bne_iff_ne]; exact h0
    clear HRF HLN
    go_enter Tryd.func4, Tryd.ntmps4
    go_wp2_with fail
    refine (HSH.out _).mono ?_
    rintro e w1 ⟨rfl, hb1⟩
    have HS1 := Lib.hid (sd2_box rfl rfl hb1); clear hb1
    obtain ⟨z0, z1, z2, z3⟩ := four_cells HS1.out.2.1
    obtain ⟨g0, g1, g2, g3⟩ := four_frozen HS1.out.2.1
    have HS2 := Lib.hid (sd2_stored (a' := .int .i64 kd) (b' := .slice A1 m1 c1) (c' := .slice A2 m2 c2) (d' := .int .i64 x) HS1.out)
    obtain ⟨y0, y1, y2⟩ := three_cells HS2.out.1
    go_wp2_with fail
    generalize ((((w1.setCell ⟨w.heap.size + 1, 0, none⟩ (.int .i64 kd)).setCell ⟨w.heap.size + 1, 1, none⟩ (.slice A1 m1 c1)).setCell ⟨w.heap.size + 1, 2, none⟩ (.slice A2 m2 c2)).setCell ⟨w.heap.size + 1, 3, none⟩ (.int .i64 x)) = w2 at *
    clear z0 z1 z2 z3 g0 g1 g2 g3 y0 y1 y2
    refine (HEN.out _ HS2.out.2.2).mono ?_
    rintro e w3 ⟨A3, n3, c3, rfl, hs3, hy3, hx3, hb3⟩
    have HS3 := Lib.hid (HS2.out.next hb3 (by rfl) (by rfl) (by rfl) (by rfl)); clear hb3
    obtain rfl := hx3 h0
    clear hs3 hx3 hy3 h0
    obtain ⟨y0, y1, y2⟩ := three_cells HS3.out.1
    obtain ⟨z0, z1, z2, z3⟩ := four_cells HS3.out.2.1
    go_wp2_with fail
    refine (HCK.out _).mono ?_
    rintro e w4 ⟨rfl, hb4⟩
    have HS4 := Lib.hid (HS3.out.next hb4 (by rfl) (by rfl) (by rfl) (by rfl))
    clear hb4 y0 y1 y2 z0 z1 z2 z3
    go_wp2_with fail
    refine (HAW.out _ HS4.out.2.2).mono ?_
    rintro e w5 ⟨rfl, hb5⟩
    have HS5 := Lib.hid (HS4.out.next hb5 (by rfl) (by rfl) (by rfl) (by rfl))
    clear hb5
    go_wp2
    go_ret
    exact ⟨rfl, HS5.out.2.2⟩
end Go.Proofs.YtgonpmfjfmmfoaaDoor
