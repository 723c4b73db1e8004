/-
  The walk of the reference's Decode of frames.
-/
import Derived.Test.YtjfgnojmdbfnmaaDoorFrRef
namespace Go.Proofs.YtjfgnojmdbfnmaaDoor
open Go.RowKit
theorem bsin_drawn {w : World} {lo hi : Nat} {A : Option Addr} {l : List Nat} (h : BsIn w lo hi A l) (k : Nat) : BsIn (w.drewN k) lo hi A l := h
theorem reffrdec_any (k s x : Int) (A : Option Addr) (B n c : Nat) (l : List Nat) (w : World) (hs63 : s ≤ 9223372036854775807) (hB : B ≤ w.heap.size) (hs : SlIs A n c) (hl : Hid (l.length = n)) (hb : Hid (Bs w B A l)) :
    Calls Tryd.prog 39 #[.int .i64 k, .int .i64 s, .int .i64 x, .slice A n c] w fun e w' => (Fr.good k s x l ∧ GotFr w (Rc.sub l 1 59) e w') ∨ (¬ Fr.good k s x l ∧ NoFr w e w') := by
  by_cases hm : Fr.may k s x
  · have HM : Hid (∀ W, Calls Tryd.prog 62 #[.int .i64 k, .int .i64 s, .int .i64 x] W fun e w' => e = .returned (.bool true) ∧ W = w') := fun W => by
      have h := refmay_any k s x W
      rwa [decide_eq_true hm] at h
    by_cases h64 : n = 64
    · subst h64
      obtain ⟨ad, rfl⟩ : ∃ ad, A = some ad := by
        cases A with
        | none => have := hs.1 rfl; omega
        | some ad => exact ⟨ad, rfl⟩
      have hc64 : 64 ≤ c := hs.2.1
      have hc63 := hs.2.2
      have i1 : (1 : Int) ≤ (c : Int) := by omega
      have i60 : (60 : Int) ≤ (c : Int) := by omega
      have hc1 : c ≠ 1 := by omega
      have HSP : Hid (SlIs (some (⟨ad.block, ad.off + 1, none⟩ : Addr)) 59 (c - 1)) := ⟨(fun e => by cases e), by omega, by omega⟩
      have HPL : Hid ((Rc.sub l 1 59).length = 59) := Fr.sub59 l hl.out
      have HPB : Hid (∀ W, Below w.heap.size w W → Bs W B (some (⟨ad.block, ad.off + 1, none⟩ : Addr)) (Rc.sub l 1 59)) := fun W hW => by
        have h := ((hb.out.bsIn.drop 1).bs.take 59).below hW hB
        rw [Option.map_some, add_pos ad 1 (by omega)] at h
        exact h
      have hm' := hm
      unfold Fr.may at hm'
      obtain ⟨kd, rfl⟩ := Int.eq_ofNat_of_zero_le (show 0 ≤ k by omega)
      obtain ⟨sa, rfl⟩ := Int.eq_ofNat_of_zero_le (show 0 ≤ s by omega)
      obtain ⟨se, rfl⟩ := Int.eq_ofNat_of_zero_le (show 0 ≤ x by omega)
      have HEN : Hid (∀ W, Below w.heap.size w W → Calls Tryd.prog 33 #[.int .i64 (kd : Int), .int .i64 (sa : Int), .int .i64 (se : Int), .slice (some ⟨ad.block, ad.off + 1, none⟩) 59 (c - 1)] W fun e w' => ∃ A3 c3, e = .returned (.slice A3 64 c3) ∧ SlIs A3 64 c3 ∧ Bs w' w'.heap.size A3 (Fr.enc (kd : Int) (sa : Int) (se : Int) (Rc.sub l 1 59)) ∧ Below W.heap.size W w') := fun W hW =>
        reffrenc_any kd sa se _ B 59 (c - 1) _ W ⟨by omega, by omega⟩ (by omega) (by omega) (Nat.le_trans hB hW.size) HSP.out HPL.out (by decide) (HPB.out W hW)
      have HLE : Hid ((Fr.enc (kd : Int) (sa : Int) (se : Int) (Rc.sub l 1 59)).length = 64) := Fr.enc_length _ _ _ _ (by rw [HPL.out]; decide)
      have HG : Hid (Fr.good (kd : Int) (sa : Int) (se : Int) l ↔ l = Fr.enc (kd : Int) (sa : Int) (se : Int) (Rc.sub l 1 59)) := ⟨fun h => h.2.2.symm, fun h => ⟨hm, hl.out, h.symm⟩⟩
      clear hm hm' hs
      generalize Fr.enc (kd : Int) (sa : Int) (se : Int) (Rc.sub l 1 59) = en at *
      generalize Rc.sub l 1 59 = pl at *
      have HQ : Hid (∀ W A' c', Below w.heap.size w W → Bs W W.heap.size A' en → Calls Tryd.prog 17 #[.slice (some ad) 64 c, .slice A' 64 c'] W (SaysQuiet (decide (l = en)) W)) := fun W A' c' hW h =>
        refeq_any (some ad) A' B W.heap.size 64 64 c c' l en W hl HLE (by decide) (by decide) (hb.out.below hW hB) h
      by_cases he : l = en
      · rw [decide_eq_true he] at HQ
        have HGG := Lib.hid (HG.out.2 he)
        clear HG he
        go_enter Tryd.func39, Tryd.ntmps39
        go_wp2_with fail
        refine (HM.out _).mono ?_
        rintro e w' ⟨rfl, rfl⟩
        go_wp2_with fail
        refine (HEN.out _ (Below.refl _ _)).mono ?_
        rintro e w1 ⟨A1, c1, rfl, -, hbs, hb1⟩
        have HB1 := Lib.hid hb1
        have HS1 := Lib.hid hbs
        clear hb1 hbs
        go_wp2_with fail
        refine (HQ.out _ _ _ HB1.out HS1.out).mono ?_
        rintro e w' ⟨rfl, k1, rfl⟩
        have HB2 : Hid (Below w.heap.size w (w1.drewN k1)) := below_drawn HB1.out k1
        clear HS1
        generalize w1.drewN k1 = w2 at *
        have HP2 := Lib.hid (HPB.out _ HB2.out)
        go_wp2_with (at_builtin; refine append_bytes rfl (.tmp 32) rfl B (some ⟨ad.block, ad.off + 1, none⟩) 59 (c - 1) pl (by simp [Act.eval]) (fun e => by cases e) HPL.out HP2.out (by decide) ?_; rintro A3 c3 w3 hs3 hb3 hB3; have HS3 := Lib.hid (And.intro hs3 (And.intro hb3 hB3)); clear hs3 hb3 hB3)
        go_ret2
        exact .inl ⟨HGG.out, A3, c3, rfl, HS3.out.1, HS3.out.2.1.wider HB2.out.size (Nat.le_refl _), HB2.out.trans (HS3.out.2.2.mono HB2.out.size)⟩
      · rw [decide_eq_false he] at HQ
        have HGG : Hid (¬ Fr.good (kd : Int) (sa : Int) (se : Int) l) := fun h => he (HG.out.1 h)
        clear HG he
        go_enter Tryd.func39, Tryd.ntmps39
        go_wp2_with fail
        refine (HM.out _).mono ?_
        rintro e w' ⟨rfl, rfl⟩
        go_wp2_with fail
        refine (HEN.out _ (Below.refl _ _)).mono ?_
        rintro e w1 ⟨A1, c1, rfl, -, hbs, hb1⟩
        have HB1 := Lib.hid hb1
        have HS1 := Lib.hid hbs
        clear hb1 hbs
        go_wp2_with fail
        refine (HQ.out _ _ _ HB1.out HS1.out).mono ?_
        rintro e w' ⟨rfl, k1, rfl⟩
        go_wp2
        go_ret2
        exact .inr ⟨HGG.out, rfl, below_drawn HB1.out k1⟩
    · have HGG : Hid (¬ Fr.good k s x l) := fun h => h64 (hl.out.symm.trans h.2.1)
      have h : ((n : Int) != 64) = true := by rw [bne_iff_ne]; omega
      clear h64 hm
      go_enter Tryd.func39, Tryd.ntmps39
      go_wp2_with fail
      refine (HM.out _).mono ?_
      rintro e w' ⟨rfl, rfl⟩
      go_wp2
      go_ret2
      exact .inr ⟨HGG.out, rfl, Below.refl _ _⟩
  · have HM : Hid (∀ W, Calls Tryd.prog 62 #[.int .i64 k, .int .i64 s, .int .i64 x] W fun e w' => e = .returned (.bool false) ∧ W = w') := fun W => by
      have h := refmay_any k s x W
      rwa [decide_eq_false hm] at h
    have HGG : Hid (¬ Fr.good k s x l) := fun h => hm h.1
    clear hm
    go_enter Tryd.func39, Tryd.ntmps39
    go_wp2_with fail
    refine (HM.out _).mono ?_
    rintro e w' ⟨rfl, rfl⟩
    go_wp2
    go_ret2
    exact .inr ⟨HGG.out, rfl, Below.refl _ _⟩
end Go.Proofs.YtjfgnojmdbfnmaaDoor
