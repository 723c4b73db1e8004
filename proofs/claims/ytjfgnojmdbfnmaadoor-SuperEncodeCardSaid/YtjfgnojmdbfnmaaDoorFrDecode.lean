/-
  The walk of frame.Decode.
-/
import Derived.Test.YtjfgnojmdbfnmaaDoorFrWalk
namespace Go.Proofs.YtjfgnojmdbfnmaaDoor
open Go.RowKit
/-- The first error of Encode. -/
def Fr.err (k s x : Int) (n : Nat) : Int := if Fr.may k s x then (if 59 < n then 3 else 0) else 2
theorem frencode_any (k s x : Int) (A : Option Addr) (B n c : Nat) (l : List Nat) (w : World) (hs63 : s ≤ 9223372036854775807) (hB : B ≤ w.heap.size) (hs : SlIs A n c) (hl : l.length = n) (hb : Bs w B A l) (ht : TabW w) (hz : 0 < w.heap.size) :
    Calls Tryd.prog 20 #[.int .i64 k, .int .i64 s, .int .i64 x, .slice A n c] w (FrEnc w (Fr.enc k s x l) (Fr.err k s x n)) := by
  have early : ¬ Fr.may k s x ∨ 59 < n → Calls Tryd.prog 20 #[.int .i64 k, .int .i64 s, .int .i64 x, .slice A n c] w (FrEnc w (Fr.enc k s x l) (Fr.err k s x n)) := fun h => by
    have e : Fr.err k s x n = if Fr.may k s x then 3 else 2 := by
      unfold Fr.err
      by_cases hm : Fr.may k s x
      · rw [if_pos hm, if_pos hm, if_pos (h.resolve_left (fun e => e hm))]
      · rw [if_neg hm, if_neg hm]
    have hne : (if Fr.may k s x then (3 : Int) else 2) ≠ 0 := by split <;> decide
    rw [e]
    refine (frencode_early k s x A n c w h).mono ?_
    rintro e w' ⟨A', n', c', rfl, h1, -, h3, h4⟩
    exact ⟨A', n', c', rfl, h1, fun e => absurd e hne, h3, h4⟩
  by_cases hm : Fr.may k s x
  · by_cases hn : 59 < n
    · exact early (.inr hn)
    · have e : Fr.err k s x n = 0 := by unfold Fr.err; rw [if_pos hm, if_neg hn]
      rw [e]
      unfold Fr.may at hm
      obtain ⟨kd, rfl⟩ := Int.eq_ofNat_of_zero_le (show 0 ≤ k by omega)
      obtain ⟨sa, rfl⟩ := Int.eq_ofNat_of_zero_le (show 0 ≤ s by omega)
      obtain ⟨se, rfl⟩ := Int.eq_ofNat_of_zero_le (show 0 ≤ x by omega)
      exact frencode_ok kd sa se A B n c l w ⟨by omega, by omega⟩ (by omega) (by omega) hB hs hl (by omega) hb ht hz
  · exact early (.inl hm)
/-- Nothing was decoded. -/
def NoFr (w : World) (e : Ending) (w' : World) : Prop := e = .returned (.tuple #[.slice none 0 0, .bool false]) ∧ Below w.heap.size w w'
/-- The payload, in a row of its own. -/
def GotFr (w : World) (p : List Nat) (e : Ending) (w' : World) : Prop := ∃ A1 c1, e = .returned (.tuple #[.slice A1 59 c1, .bool true]) ∧ SlIs A1 59 c1 ∧ BsIn w' w.heap.size w'.heap.size A1 p ∧ Below w.heap.size w w'
theorem frdecode_any (k s x : Int) (A : Option Addr) (B n c : Nat) (l : List Nat) (w : World) (hs63 : s ≤ 9223372036854775807) (hB : B ≤ w.heap.size) (hs : SlIs A n c) (hl : Hid (l.length = n)) (hb : Hid (Bs w B A l)) (ht : Hid (TabW w)) (hz : 0 < w.heap.size) :
    Calls Tryd.prog 36 #[.int .i64 k, .int .i64 s, .int .i64 x, .slice A n c] w fun e w' => (Fr.good k s x l ∧ GotFr w (Rc.sub l 1 59) e w') ∨ (¬ Fr.good k s x l ∧ NoFr w e w') := by
  by_cases h64 : n = 64
  · subst h64
    obtain ⟨ad, rfl⟩ : ∃ ad, A = some ad := by
      cases A with
      | none => have := hs.1 rfl; omega
      | some ad => exact ⟨ad, rfl⟩
    have hc64 : 64 ≤ c := hs.2.1
    have hc63 := hs.2.2
    have i1 : (1 : Int) ≤ (c : Int) := by omega
    have i60 : (60 : Int) ≤ (c : Int) := by omega
    have hc1 : c ≠ 1 := by omega
    have HSP : Hid (SlIs (some (⟨ad.block, ad.off + 1, none⟩ : Addr)) 59 (c - 1)) := ⟨(fun e => by cases e), by omega, by omega⟩
    have HPL : Hid ((Rc.sub l 1 59).length = 59) := Fr.sub59 l hl.out
    have HPB : Hid (∀ W, Below w.heap.size w W → Bs W B (some (⟨ad.block, ad.off + 1, none⟩ : Addr)) (Rc.sub l 1 59)) := fun W hW => by
      have h := ((hb.out.bsIn.drop 1).bs.take 59).below hW hB
      rw [Option.map_some, add_pos ad 1 (by omega)] at h
      exact h
    have HEN : Hid (∀ W, Below w.heap.size w W → Calls Tryd.prog 20 #[.int .i64 k, .int .i64 s, .int .i64 x, .slice (some ⟨ad.block, ad.off + 1, none⟩) 59 (c - 1)] W (FrEnc W (Fr.enc k s x (Rc.sub l 1 59)) (Fr.err k s x 59))) := fun W hW =>
      frencode_any k s x _ B 59 (c - 1) _ W hs63 (Nat.le_trans hB hW.size) HSP.out HPL.out (HPB.out W hW) (ht.out.below hW hz) (Nat.lt_of_lt_of_le hz hW.size)
    by_cases hm : Fr.may k s x
    · have HLT : Hid (∀ y ∈ Fr.enc k s x (Rc.sub l 1 59), y < 256) := Fr.enc_lt _ _ _ _ ⟨hm.1, hm.2.1⟩ (sub_lt hb.out.lt _ _)
      have HLE : Hid ((Fr.enc k s x (Rc.sub l 1 59)).length = 64) := Fr.enc_length _ _ _ _ (by rw [HPL.out]; decide)
      have HG : Hid (Fr.good k s x l ↔ l = Fr.enc k s x (Rc.sub l 1 59)) := ⟨fun h => h.2.2.symm, fun h => ⟨hm, hl.out, h.symm⟩⟩
      have e0 : Fr.err k s x 59 = 0 := by unfold Fr.err; rw [if_pos hm]; rfl
      rw [e0] at HEN
      have HPLT : Hid (∀ y ∈ Rc.sub l 1 59, y < 256) := sub_lt hb.out.lt _ _
      clear hm e0 hs
      generalize Fr.enc k s x (Rc.sub l 1 59) = en at *
      generalize Rc.sub l 1 59 = pl at *
      unfold FrEnc at HEN
      have HQ : Hid (∀ W A' c', Below w.heap.size w W → Bs W W.heap.size A' en → Calls Tryd.prog 51 #[.slice (some ad) 64 c, .slice A' 64 c'] W fun e w' => e = .returned (.bool (decide (l = en))) ∧ W = w') := fun W A' c' hW h =>
        (equal_any (some ad) A' B W.heap.size 64 c 64 c' l en W (fun e => by cases e) (fun e => by
          subst e
          obtain ⟨_, ad', e, _⟩ := h 0 (by rw [HLE.out]; decide)
          cases e) hl.out HLE.out (hb.out.below hW hB) h).mono fun _ _ h => ⟨h.1, h.2.symm⟩
      by_cases he : l = en
      · rw [decide_eq_true he] at HQ
        have HGG := Lib.hid (HG.out.2 he)
        clear HG he
        go_enter Tryd.func36, Tryd.ntmps36
        go_wp2_with fail
        refine (HEN.out _ (Below.refl _ _)).mono ?_
        rintro e w1 ⟨A1, n1, c1, rfl, -, h2, -, hb1⟩
        obtain ⟨rfl, hown⟩ := h2 trivial
        obtain ⟨A1', c1', e1, hbs, -, -, -, -⟩ := own_bytes hown HLT.out
        injection e1 with e1 _ e3
        subst e1 e3
        have HB1 := Lib.hid hb1
        have HS1 := Lib.hid hbs
        clear hb1 hbs hown h2
        go_wp2_with fail
        refine (HQ.out _ _ _ HB1.out HS1.out).mono ?_
        rintro e w' ⟨rfl, rfl⟩
        have HCL := Lib.hid (clone_at w1 w1.heap.size (Nat.le_refl _) (some ⟨ad.block, ad.off + 1, none⟩) B 59 (c - 1) pl HSP.out HPL.out (by decide) (HPB.out _ HB1.out) HPLT.out w1 rfl rfl rfl rfl)
        go_wp2_with fail
        refine HCL.out.mono ?_
        rintro e w2 ⟨A2, c2, rfl, hs2, hb2, hbel⟩
        have HS2 := Lib.hid (And.intro hs2 (And.intro hb2 hbel))
        clear hs2 hb2 hbel
        go_wp2
        go_ret2
        exact .inl ⟨HGG.out, A2, c2, rfl, HS2.out.1, HS2.out.2.1.wider HB1.out.size (Nat.le_refl _), HB1.out.trans (HS2.out.2.2.mono HB1.out.size)⟩
      · rw [decide_eq_false he] at HQ
        have HGG : Hid (¬ Fr.good k s x l) := fun h => he (HG.out.1 h)
        clear HG he
        go_enter Tryd.func36, Tryd.ntmps36
        go_wp2_with fail
        refine (HEN.out _ (Below.refl _ _)).mono ?_
        rintro e w1 ⟨A1, n1, c1, rfl, -, h2, -, hb1⟩
        obtain ⟨rfl, hown⟩ := h2 trivial
        obtain ⟨A1', c1', e1, hbs, -, -, -, -⟩ := own_bytes hown HLT.out
        injection e1 with e1 _ e3
        subst e1 e3
        have HB1 := Lib.hid hb1
        have HS1 := Lib.hid hbs
        clear hb1 hbs hown h2
        go_wp2_with fail
        refine (HQ.out _ _ _ HB1.out HS1.out).mono ?_
        rintro e w' ⟨rfl, rfl⟩
        go_wp2
        go_ret2
        exact .inr ⟨HGG.out, rfl, HB1.out⟩
    · have HGG : Hid (¬ Fr.good k s x l) := fun h => hm h.1
      have e0 : Fr.err k s x 59 = 2 := by unfold Fr.err; rw [if_neg hm]
      rw [e0] at HEN
      clear hm e0 hs
      unfold FrEnc at HEN
      go_enter Tryd.func36, Tryd.ntmps36
      go_wp2_with fail
      refine (HEN.out _ (Below.refl _ _)).mono ?_
      rintro e w1 ⟨A1, n1, c1, rfl, -, -, -, hb1⟩
      have HB1 := Lib.hid hb1
      clear hb1
      go_wp2
      go_ret2
      exact .inr ⟨HGG.out, rfl, HB1.out⟩
  · have HGG : Hid (¬ Fr.good k s x l) := fun h => h64 (hl.out.symm.trans h.2.1)
    have h : ((n : Int) != 64) = true := by rw [bne_iff_ne]; omega
    clear h64
    go_enter Tryd.func36, Tryd.ntmps36
    go_wp2
    go_ret2
    exact .inr ⟨HGG.out, rfl, Below.refl _ _⟩
end Go.Proofs.YtjfgnojmdbfnmaaDoor
