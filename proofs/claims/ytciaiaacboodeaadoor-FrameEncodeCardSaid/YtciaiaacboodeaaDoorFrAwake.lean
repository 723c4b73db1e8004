/-
  The walk of layer 6's Awake.
-/
import Derived.Test.YtciaiaacboodeaaDoorFrRefDecode
import Derived.Lib.SlBytesConst
namespace Go.Proofs.YtciaiaacboodeaaDoor
open Go.RowKit
theorem ab_err : Fr.err 2 7 80 2 = 0 := by decide
theorem ab_parts : (Fr.enc 2 7 80 [97, 98]).getD 0 0 = 2 ∧ (Rc.sub (Fr.enc 2 7 80 [97, 98]) 1 59).getD 1 0 = 98 ∧ (Rc.sub (Fr.enc 2 7 80 [97, 98]) 1 59).length = 59 := by
  rw [Fr.sub_enc _ _ _ _ (by decide)]
  exact ⟨rfl, rfl, rfl⟩
set_option maxHeartbeats 1000000 in
theorem frawake_any (w : World) (ht : Hid (TabW w)) (hz : 0 < w.heap.size) : Calls Tryd.prog 14 #[] w fun e w' => e = .returned (.bool true) ∧ Below w.heap.size w w' := by
  have kc := fun (w : World) (C : Array Value) (n c : Nat) => Lib.run_convert_bytes_const (P := Tryd.prog) w 24 5 C n c Tryd.underlying24 Tryd.underlying5
  have HE : Hid (∀ (o : Obj), Bs (w.alloc o) (w.heap.size + 1) (some ⟨w.heap.size, 0, none⟩) [97, 98] → Calls Tryd.prog 12 #[.int .i64 2, .int .i64 7, .int .i64 80, .slice (some ⟨w.heap.size, 0, none⟩) 2 2] (w.alloc o) (FrEnc (w.alloc o) (Fr.enc 2 7 80 [97, 98]) 0)) := fun o h => by
    have h2 := frencode_any 2 7 80 (some ⟨w.heap.size, 0, none⟩) (w.heap.size + 1) 2 2 [97, 98] (w.alloc o) (by decide) (by simp) ⟨(fun e => by cases e), Nat.le_refl _, by decide⟩ rfl h (tab_alloc ht.out hz o) (by simp)
    rwa [ab_err] at h2
  have HLT : Hid (∀ y ∈ Fr.enc 2 7 80 [97, 98], y < 256) := Fr.enc_lt _ _ _ _ (by decide) (by decide)
  have HLE : Hid ((Fr.enc 2 7 80 [97, 98]).length = 64) := Fr.enc_length _ _ _ _ (by decide)
  have HD : Hid (∀ (W : World) (A : Option Addr) (c : Nat), Below w.heap.size w W → SlIs A 64 c → Bs W W.heap.size A (Fr.enc 2 7 80 [97, 98]) → Calls Tryd.prog 17 #[.int .i64 2, .int .i64 7, .int .i64 80, .slice A 64 c] W (GotFr W (Rc.sub (Fr.enc 2 7 80 [97, 98]) 1 59))) := fun W A c hW h1 h2 =>
    (frdecode_any 2 7 80 A W.heap.size 64 c _ W (by decide) (Nat.le_refl _) h1 HLE.out h2 (ht.out.below hW hz) (Nat.lt_of_lt_of_le hz hW.size)).mono fun _ _ h => h.elim (fun h => h.2) (fun h => absurd (Fr.round 2 7 80 [97, 98] (by decide) (by decide)) h.1)
  have HPT := Lib.hid ab_parts
  have HBL := Lib.hid (bs_lit w [97, 98] (by decide))
  generalize Rc.sub (Fr.enc 2 7 80 [97, 98]) 1 59 = pl at *
  generalize Fr.enc 2 7 80 [97, 98] = en at *
  unfold FrEnc at HE
  go_enter Tryd.func14, Tryd.ntmps14
  go_wp2_with fail
  refine (HE.out _ (HBL.out (2, 3))).mono ?_
  rintro e w1 ⟨A1, n1, c1, rfl, -, h2, -, hb1⟩
  obtain ⟨rfl, hown⟩ := h2 trivial
  have HB1 : Hid (Below w.heap.size w w1) := ((Below.refl _ _).alloc (Nat.le_refl _) _).trans (hb1.mono (by simp))
  obtain ⟨A1', c1', e1, hbs, -, hn1, hm1, ho1⟩ := own_bytes hown HLT.out
  injection e1 with e1 _ e3
  subst e1 e3
  obtain ⟨g, rfl, hg1, hg2⟩ : ∃ g, A1 = some ⟨g, 0, none⟩ ∧ w.heap.size ≤ g ∧ g < w1.heap.size := by
    rcases ho1 with ⟨_, h, _⟩ | ⟨g, h1, h2, h3⟩
    · omega
    · exact ⟨g, h1, by simp at h2; omega, h3⟩
  have HS1 : Hid (SlIs (some (⟨g, 0, none⟩ : Addr)) 64 c1 ∧ Bs w1 w1.heap.size (some ⟨g, 0, none⟩) en) := ⟨⟨(fun e => by cases e), hn1, by unfold maxLen at hm1; exact hm1⟩, hbs⟩
  clear hb1 hown h2 hbs ho1
  go_wp2_with fail
  refine (HD.out _ _ _ HB1.out HS1.out.1 HS1.out.2).mono ?_
  rintro e w2 ⟨A2, c2, rfl, hs2, hb2, hbel2⟩
  obtain ⟨ad, rfl⟩ : ∃ ad, A2 = some ad := by
    obtain ⟨_, ad, e, _⟩ := hb2 0 (by rw [HPT.out.2.2]; decide)
    exact ⟨ad, e⟩
  have c0 : w2.cell? ⟨g, 0, none⟩ = some (.int .u8 2) := by
    obtain ⟨_, ad', e, h1, h3⟩ := HS1.out.2 0 (by rw [HLE.out]; decide)
    injection e with e
    subst e
    rw [HPT.out.1] at h3
    exact (hbel2.cell (p := ⟨g, 0, none⟩) h1).trans h3
  have c1' : w2.cell? ⟨ad.block, ad.off + 1, none⟩ = some (.int .u8 98) := by
    obtain ⟨_, ad', e, _, _, h3⟩ := hb2 1 (by rw [HPT.out.2.2]; decide)
    injection e with e
    subst e
    rw [HPT.out.2.1, add_pos ad 1 (by decide)] at h3
    exact h3
  have HB2 : Hid (Below w.heap.size w w2) := HB1.out.trans (hbel2.mono HB1.out.size)
  clear hs2 hb2 hbel2
  go_wp2
  go_ret
  exact ⟨rfl, HB2.out⟩
end Go.Proofs.YtciaiaacboodeaaDoor
