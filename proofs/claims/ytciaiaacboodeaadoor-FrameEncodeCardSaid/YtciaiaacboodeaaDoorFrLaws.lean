/-
  The walks of the statements on Encode and Decode of frames.
-/
import Derived.Test.YtciaiaacboodeaaDoorFrAwake
import Derived.Test.YtciaiaacboodeaaDoorRecCheckLaw
import Derived.Test.YtciaiaacboodeaaDoorRecLengths
import Derived.Test.YtciaiaacboodeaaDoorRecCut
import Derived.Deep.DeepCutAuto
import Derived.Deep.CutBlock
namespace Go.Proofs.YtciaiaacboodeaaDoor
open Go.RowKit
theorem sd_frplace (w : World) (a b c : Value) (t : TypeId) : Sd w w.heap.size (.cells #[a, b, c] t (0, 0)) (w.alloc (.cells #[a, b, c] t)) := ⟨heap_alloc_new _ _, (Below.refl _ w).alloc (Nat.le_refl _) _⟩
set_option maxHeartbeats 1000000 in
theorem frameencode_any (k s x : Int) (A : Option Addr) (n c : Nat) (l : List Nat) (w : World) (hs63 : s ≤ 9223372036854775807) (hs : SlIs A n c) (hb : Hid (l.length = n ∧ Bs w w.heap.size A l)) (ht : Hid (TabW w)) (hz : 0 < w.heap.size) :
    Calls Tryd.prog 4 #[.agg #[.int .i64 k, .int .i64 s, .int .i64 x], .slice A n c] w fun e w' => e = .returned (.bool true) ∧ Below w.heap.size w w' := by
  obtain ⟨m, hm⟩ := min_is n 70
  obtain ⟨a1, a2⟩ := min_bs hb.out.1 hb.out.2 hm
  have q := min_sl hs hm
  have HAW : Hid (∀ W, Below w.heap.size w W → Calls Tryd.prog 14 #[] W fun e w' => e = .returned (.bool true) ∧ Below W.heap.size W w') := fun W hW => frawake_any W (ht.out.below hW hz) (Nat.lt_of_lt_of_le hz hW.size)
  have HEN : Hid (∀ W, Below w.heap.size w W → Calls Tryd.prog 12 #[.int .i64 k, .int .i64 s, .int .i64 x, .slice A m c] W (FrEnc W (Fr.enc k s x (l.take m)) (Fr.err k s x m))) := fun W hW =>
    frencode_any k s x A w.heap.size m c _ W hs63 hW.size q a1 (a2.below hW (Nat.le_refl _)) (ht.out.below hW hz) (Nat.lt_of_lt_of_le hz hW.size)
  have HM : Hid (∀ W, Calls Tryd.prog 13 #[.int .i64 k, .int .i64 s, .int .i64 x] W fun e w' => e = .returned (.bool (decide (Fr.may k s x))) ∧ W = w') := fun W => refmay_any k s x W
  have hnc := hs.2.1
  have hc63 := hs.2.2
  unfold FrEnc at HEN
  have HRF : Hid (Fr.err k s x m = 0 → ∀ W, Below w.heap.size w W → Calls Tryd.prog 16 #[.int .i64 k, .int .i64 s, .int .i64 x, .slice A m c] W fun e w' => ∃ A3 c3, e = .returned (.slice A3 64 c3) ∧ SlIs A3 64 c3 ∧ Bs w' w'.heap.size A3 (Fr.enc k s x (l.take m)) ∧ Below W.heap.size W w') := fun he W hW => by
    unfold Fr.err at he
    by_cases hma : Fr.may k s x
    · rw [if_pos hma] at he
      by_cases h59 : 59 < m
      · rw [if_pos h59] at he; cases he
      · unfold Fr.may at hma
        obtain ⟨kd, rfl⟩ := Int.eq_ofNat_of_zero_le (show 0 ≤ k by omega)
        obtain ⟨sa, rfl⟩ := Int.eq_ofNat_of_zero_le (show 0 ≤ s by omega)
        obtain ⟨se, rfl⟩ := Int.eq_ofNat_of_zero_le (show 0 ≤ x by omega)
        exact reffrenc_any kd sa se A w.heap.size m c _ W ⟨by omega, by omega⟩ (by omega) (by omega) hW.size q a1 (by omega) (a2.below hW (Nat.le_refl _))
    · rw [if_neg hma] at he; cases he
  have HCASE : (Fr.may k s x ∧ 59 < m ∧ Fr.err k s x m = 3) ∨ (Fr.may k s x ∧ m ≤ 59 ∧ Fr.err k s x m = 0 ∧ Hid ((∀ y ∈ Fr.enc k s x (l.take m), y < 256) ∧ (Fr.enc k s x (l.take m)).length = 64)) ∨ (¬ Fr.may k s x ∧ Fr.err k s x m = 2) := by
    unfold Fr.err
    by_cases hma : Fr.may k s x
    · by_cases h59 : 59 < m
      · exact .inl ⟨hma, h59, by rw [if_pos hma, if_pos h59]⟩
      · exact .inr (.inl ⟨hma, by omega, by rw [if_pos hma, if_neg h59], Fr.enc_lt _ _ _ _ ⟨hma.1, hma.2.1⟩ a2.lt, Fr.enc_length _ _ _ _ (by rw [a1]; omega)⟩)
    · exact .inr (.inr ⟨hma, by rw [if_neg hma]⟩)
  clear a1 a2 q hs
  generalize Fr.enc k s x (l.take m) = en at *
  generalize Fr.err k s x m = er at *
  go_enter Tryd.func4, Tryd.ntmps4
  go_upto_region 1 with fail
  have HS0 := Lib.hid (sd_frplace w (.int .i64 k) (.int .i64 s) (.int .i64 x) 33)
  generalize w.alloc (.cells #[.int .i64 k, .int .i64 s, .int .i64 x] 33) = w0 at *
  go_cut [1] (fun s wx => s = .slice A m c ∧ w0 = wx)
  case first =>
    unfold MinIs at hm
    rcases hm with ⟨i0, rfl⟩ | ⟨i0, rfl⟩
    all_goals
      go_wp2_with fail
      go_meet
      exact ⟨rfl, rfl⟩
  case rest =>
    obtain ⟨rfl, rfl⟩ := hcut
    obtain ⟨y0, y1, y2⟩ := three_cells HS0.out.1
    go_wp2_with fail
    refine (HEN.out _ HS0.out.2).mono ?_
    rintro e w2 ⟨A1, n1, c1, rfl, hs1, h0, hne, hb2⟩
    have HS2 := Lib.hid (HS0.out.next hb2 (by rfl) (by rfl) (by rfl) (by rfl))
    clear hb2 y0 y1 y2
    obtain ⟨y0, y1, y2⟩ := three_cells HS2.out.1
    rcases HCASE with ⟨hma, h59, rfl⟩ | ⟨hma, h59, rfl, HEL⟩ | ⟨hma, rfl⟩
    · obtain rfl := hne (by decide)
      have hd : decide ((59 : Int) < (m : Int)) = true := by simp; omega
      rw [decide_eq_true hma] at HM
      clear hma h0 hne hs1 HRF HEN
      go_wp2_with fail
      refine (HM.out _).mono ?_
      rintro e w' ⟨rfl, rfl⟩
      go_wp2_with fail
      refine (HAW.out _ HS2.out.2).mono ?_
      rintro e w3 ⟨rfl, hb3⟩
      have HS3 := Lib.hid (HS2.out.next hb3 (by rfl) (by rfl) (by rfl) (by rfl))
      clear hb3
      go_wp2
      go_ret
      exact ⟨rfl, HS3.out.2⟩
    · obtain ⟨rfl, hown⟩ := h0 rfl
      have hd : decide ((59 : Int) < (m : Int)) = false := by simp; omega
      obtain ⟨A1', c1', e1, hbs, -, -, -, -⟩ := own_bytes hown HEL.out.1
      injection e1 with e1 _ e3
      subst e1 e3
      have HBS := Lib.hid hbs
      rw [decide_eq_true hma] at HM
      have HR := Lib.hid (HRF.out rfl)
      clear hma h0 hne hs1 HRF HEN hown hbs
      go_wp2_with fail
      refine (HM.out _).mono ?_
      rintro e w' ⟨rfl, rfl⟩
      go_wp2_with fail
      refine (HAW.out _ HS2.out.2).mono ?_
      rintro e w3 ⟨rfl, hb3⟩
      have HS3 := Lib.hid (HS2.out.next hb3 (by rfl) (by rfl) (by rfl) (by rfl))
      have HBS3 : Hid (Bs w3 w2.heap.size A1 en) := HBS.out.below hb3 (Nat.le_refl _)
      have HX3 := Lib.hid hb3
      clear hb3 y0 y1 y2
      obtain ⟨y0, y1, y2⟩ := three_cells HS3.out.1
      go_wp2_with fail
      refine (HR.out _ HS3.out.2).mono ?_
      rintro e w4 ⟨A4, c4, rfl, -, hbs4, hb4⟩
      have HS4 := Lib.hid (HS3.out.next hb4 (by rfl) (by rfl) (by rfl) (by rfl))
      have HQ : Hid (Calls Tryd.prog 15 #[.slice A1 64 c1, .slice A4 64 c4] w4 (SaysQuiet true w4)) := by
        have h := refeq_any A1 A4 w2.heap.size w4.heap.size 64 64 c1 c4 en en w4 HEL.out.2 HEL.out.2 (by decide) (by decide) (HBS3.out.below hb4 HX3.out.size) hbs4
        rwa [decide_eq_true rfl] at h
      clear hb4 hbs4
      go_wp2_with fail
      refine HQ.out.mono ?_
      rintro e w5 ⟨rfl, k5, rfl⟩
      go_wp2
      go_ret
      exact ⟨rfl, below_drawn HS4.out.2 _⟩
    · obtain rfl := hne (by decide)
      rw [decide_eq_false hma] at HM
      clear hma h0 hne hs1 HRF HEN
      go_wp2_with fail
      refine (HM.out _).mono ?_
      rintro e w' ⟨rfl, rfl⟩
      go_wp2_with fail
      refine (HAW.out _ HS2.out.2).mono ?_
      rintro e w3 ⟨rfl, hb3⟩
      have HS3 := Lib.hid (HS2.out.next hb3 (by rfl) (by rfl) (by rfl) (by rfl))
      clear hb3
      go_wp2
      go_ret
      exact ⟨rfl, HS3.out.2⟩
set_option maxHeartbeats 1000000 in
theorem framedecode_any (k s x : Int) (A : Option Addr) (n c : Nat) (l : List Nat) (w : World) (hs63 : s ≤ 9223372036854775807) (hs : SlIs A n c) (hb : Hid (l.length = n ∧ Bs w w.heap.size A l)) (ht : Hid (TabW w)) (hz : 0 < w.heap.size) :
    Calls Tryd.prog 5 #[.agg #[.int .i64 k, .int .i64 s, .int .i64 x], .slice A n c] w fun e w' => e = .returned (.bool true) ∧ Below w.heap.size w w' := by
  obtain ⟨m, hm⟩ := min_is n 70
  obtain ⟨a1, a2⟩ := min_bs hb.out.1 hb.out.2 hm
  have q := min_sl hs hm
  have HAW : Hid (∀ W, Below w.heap.size w W → Calls Tryd.prog 14 #[] W fun e w' => e = .returned (.bool true) ∧ Below W.heap.size W w') := fun W hW => frawake_any W (ht.out.below hW hz) (Nat.lt_of_lt_of_le hz hW.size)
  have HP : Hid (∀ W, Below w.heap.size w W → Calls Tryd.prog 17 #[.int .i64 k, .int .i64 s, .int .i64 x, .slice A m c] W fun e w' => (Fr.good k s x (l.take m) ∧ GotFr W (Rc.sub (l.take m) 1 59) e w') ∨ (¬ Fr.good k s x (l.take m) ∧ NoFr W e w')) := fun W hW =>
    frdecode_any k s x A w.heap.size m c _ W hs63 hW.size q a1 (a2.below hW (Nat.le_refl _)) (ht.out.below hW hz) (Nat.lt_of_lt_of_le hz hW.size)
  have HR : Hid (∀ W, Below w.heap.size w W → Calls Tryd.prog 18 #[.int .i64 k, .int .i64 s, .int .i64 x, .slice A m c] W fun e w' => (Fr.good k s x (l.take m) ∧ GotFr W (Rc.sub (l.take m) 1 59) e w') ∨ (¬ Fr.good k s x (l.take m) ∧ NoFr W e w')) := fun W hW =>
    reffrdec_any k s x A w.heap.size m c _ W hs63 hW.size q a1 (a2.below hW (Nat.le_refl _))
  have HPL : Hid (Fr.good k s x (l.take m) → (Rc.sub (l.take m) 1 59).length = 59) := fun h => Fr.sub59 _ h.2.1
  have hnc := hs.2.1
  have hc63 := hs.2.2
  clear a1 a2 q hs
  unfold GotFr NoFr at HP HR
  generalize Rc.sub (l.take m) 1 59 = pl at *
  generalize Fr.good k s x (l.take m) = G at *
  go_enter Tryd.func5, Tryd.ntmps5
  go_upto_region 1 with fail
  have HS0 := Lib.hid (sd_frplace w (.int .i64 k) (.int .i64 s) (.int .i64 x) 33)
  generalize w.alloc (.cells #[.int .i64 k, .int .i64 s, .int .i64 x] 33) = w0 at *
  go_cut [1] (fun s wx => s = .slice A m c ∧ w0 = wx)
  case first =>
    unfold MinIs at hm
    rcases hm with ⟨i0, rfl⟩ | ⟨i0, rfl⟩
    all_goals
      go_wp2_with fail
      go_meet
      exact ⟨rfl, rfl⟩
  case rest =>
    obtain ⟨rfl, rfl⟩ := hcut
    obtain ⟨y0, y1, y2⟩ := three_cells HS0.out.1
    go_wp2_with fail
    refine (HP.out _ HS0.out.2).mono ?_
    rintro e w2 (⟨hg, A1, c1, rfl, -, hbs1, hb2⟩ | ⟨hg, rfl, hb2⟩)
    · have HS2 := Lib.hid (HS0.out.next hb2 (by rfl) (by rfl) (by rfl) (by rfl))
      have HB2 := Lib.hid hbs1.bs
      have HL := Lib.hid (HPL.out hg)
      clear hb2 hbs1 y0 y1 y2
      obtain ⟨y0, y1, y2⟩ := three_cells HS2.out.1
      have HR2 : Hid (∀ W, Below w.heap.size w W → Calls Tryd.prog 18 #[.int .i64 k, .int .i64 s, .int .i64 x, .slice A m c] W fun e w' => ∃ A1 c1, e = .returned (.tuple #[.slice A1 59 c1, .bool true]) ∧ SlIs A1 59 c1 ∧ BsIn w' W.heap.size w'.heap.size A1 pl ∧ Below W.heap.size W w') := fun W hW =>
        (HR.out W hW).mono fun _ _ h => h.elim (fun h => h.2) (fun h => absurd hg h.1)
      clear hg HPL HP HR
      go_wp2_with fail
      refine (HR2.out _ HS2.out.2).mono ?_
      rintro e w3 ⟨A3, c3, rfl, -, hbs3, hb3⟩
      have HS3 := Lib.hid (HS2.out.next hb3 (by rfl) (by rfl) (by rfl) (by rfl))
      have HB3 : Hid (Bs w3 w2.heap.size A1 pl ∧ Bs w3 w3.heap.size A3 pl) := ⟨HB2.out.below hb3 (Nat.le_refl _), hbs3.bs⟩
      have HZ3 := Lib.hid hb3.size
      clear hb3 hbs3 y0 y1 y2
      go_wp2_with fail
      refine (HAW.out _ HS3.out.2).mono ?_
      rintro e w4 ⟨rfl, hb4⟩
      have HS4 := Lib.hid (HS3.out.next hb4 (by rfl) (by rfl) (by rfl) (by rfl))
      have HQ : Hid (Calls Tryd.prog 15 #[.slice A1 59 c1, .slice A3 59 c3] w4 (SaysQuiet true w4)) := by
        have h := refeq_any A1 A3 w2.heap.size w3.heap.size 59 59 c1 c3 pl pl w4 HL.out HL.out (by decide) (by decide) (HB3.out.1.below hb4 HZ3.out) (HB3.out.2.below hb4 (Nat.le_refl _))
        rwa [decide_eq_true rfl] at h
      clear hb4
      go_wp2_with fail
      refine HQ.out.mono ?_
      rintro e w5 ⟨rfl, k5, rfl⟩
      go_wp2
      go_ret
      exact ⟨rfl, below_drawn HS4.out.2 _⟩
    · have HS2 := Lib.hid (HS0.out.next hb2 (by rfl) (by rfl) (by rfl) (by rfl))
      clear hb2 y0 y1 y2
      obtain ⟨y0, y1, y2⟩ := three_cells HS2.out.1
      have HR2 : Hid (∀ W, Below w.heap.size w W → Calls Tryd.prog 18 #[.int .i64 k, .int .i64 s, .int .i64 x, .slice A m c] W fun e w' => e = .returned (.tuple #[.slice none 0 0, .bool false]) ∧ Below W.heap.size W w') := fun W hW =>
        (HR.out W hW).mono fun _ _ h => h.elim (fun h => absurd h.1 hg) (fun h => h.2)
      clear hg HPL HP HR
      go_wp2_with fail
      refine (HR2.out _ HS2.out.2).mono ?_
      rintro e w3 ⟨rfl, hb3⟩
      have HS3 := Lib.hid (HS2.out.next hb3 (by rfl) (by rfl) (by rfl) (by rfl))
      clear hb3 y0 y1 y2
      go_wp2_with fail
      refine (HAW.out _ HS3.out.2).mono ?_
      rintro e w4 ⟨rfl, hb4⟩
      have HS4 := Lib.hid (HS3.out.next hb4 (by rfl) (by rfl) (by rfl) (by rfl))
      have HQ : Hid (Calls Tryd.prog 15 #[.slice none 0 0, .slice none 0 0] w4 (SaysQuiet true w4)) := by
        have h := refeq_any none none 0 0 0 0 0 0 [] [] w4 rfl rfl (by decide) (by decide) (bs_nil _ _) (bs_nil _ _)
        rwa [decide_eq_true rfl] at h
      clear hb4
      go_wp2_with fail
      refine HQ.out.mono ?_
      rintro e w5 ⟨rfl, k5, rfl⟩
      go_wp2
      go_ret
      exact ⟨rfl, below_drawn HS4.out.2 _⟩
end Go.Proofs.YtciaiaacboodeaaDoor
