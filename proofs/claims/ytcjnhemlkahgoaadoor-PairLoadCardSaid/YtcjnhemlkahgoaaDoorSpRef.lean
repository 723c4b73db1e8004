/-
  The walk of the reference's Load of the superblock pair.
-/
import Derived.Test.YtcjnhemlkahgoaaDoorSpWords
import Derived.Test.YtcjnhemlkahgoaaDoorSbUse
import Derived.Deep.DeepCutAuto
import Derived.Deep.CutBlock
set_option maxRecDepth 100000
namespace Go.Proofs.YtcjnhemlkahgoaaDoor
open Go.RowKit
theorem sec_bs {w : World} {B : Nat} {ad : Addr} {l : List Nat} (h : Bs w B (some ad) l) (had : ad.add 64 = ⟨ad.block, ad.off + 64, none⟩) : Bs w B (some ad) (sec l 0) ∧ Bs w B (some ⟨ad.block, ad.off + 64, none⟩) (sec l 1) := by
  refine ⟨?_, ?_⟩
  · unfold sec; simpa using h.take 64
  · unfold sec
    have h1 := ((h.bsIn.drop 64).bs).take 64
    rwa [Option.map_some, had] at h1
set_option maxHeartbeats 8000000 in
theorem refpload_any (A : Option Addr) (n c : Nat) (l : List Nat) (w : World) (hs : SlIs A n c) (hb : Hid (l.length = n ∧ Bs w w.heap.size A l)) (hn : 128 ≤ n) :
    Calls Tryd.prog 16 #[.slice A n c] w (LoadIs (Sp.newest (sec l 0) (sec l 1)) w) := by
  have hnc := hs.2.1
  have hc63 := hs.2.2
  obtain ⟨ad, rfl⟩ : ∃ ad, A = some ad := by
    cases A with
    | none => have := hs.1 rfl; omega
    | some ad => exact ⟨ad, rfl⟩
  have HDE : Hid (∀ W, Below w.heap.size w W → (∀ c1, 64 ≤ c1 → c1 ≤ 9223372036854775807 → Calls Tryd.prog 9 #[.slice (some ad) 64 c1, .int .i64 0] W (DecSb W 0 (sec l 0))) ∧ (∀ c1, 64 ≤ c1 → c1 ≤ 9223372036854775807 → Calls Tryd.prog 9 #[.slice (some ⟨ad.block, ad.off + 64, none⟩) 64 c1, .int .i64 1] W (DecSb W 1 (sec l 1)))) := fun W hW => by
    have hB := sec_bs (hb.out.2.below hW (Nat.le_refl _)) (add_pos ad 64 (by decide))
    have h0 : (sec l 0).length = 64 := by unfold sec; rw [List.length_take, List.length_drop, hb.out.1]; omega
    have h1 : (sec l 1).length = 64 := by unfold sec; rw [List.length_take, List.length_drop, hb.out.1]; omega
    exact ⟨fun c1 k1 k2 => refsbdec_any 0 (some ad) w.heap.size 64 c1 _ W hW.size ⟨(fun e => by cases e), k1, k2⟩ h0 hB.1 (by decide),
      fun c1 k1 k2 => refsbdec_any 1 _ w.heap.size 64 c1 _ W hW.size ⟨(fun e => by cases e), k1, k2⟩ h1 hB.2 (by decide)⟩
  have HU0 : Hid (Sp.upto (sec l 0) (sec l 1) 0 = none) := rfl
  have HF : Hid (Sp.upto (sec l 0) (sec l 1) 2 = Sp.newest (sec l 0) (sec l 1)) := rfl
  have HU : Hid (Sp.upto (sec l 0) (sec l 1) 1 = Sp.over (Sp.upto (sec l 0) (sec l 1) 0) (Sp.cand 0 (sec l 0)) ∧ Sp.upto (sec l 0) (sec l 1) 2 = Sp.over (Sp.upto (sec l 0) (sec l 1) 1) (Sp.cand 1 (sec l 1))) := ⟨Sp.upto_one _ _, Sp.upto_two _ _⟩
  generalize Sp.upto (sec l 0) (sec l 1) = up at *
  generalize Sp.newest (sec l 0) (sec l 1) = nw at *
  unfold DecSb HasSb NoSb at HDE
  have HD0 := Lib.hid (sd2_new w #[.int .i64 0, .int .i64 0, .int .i64 0, .int .i64 0, .int .i64 0, .int .i64 0, .int .i64 0, .int .i64 0, .int .i64 0, .int .i64 0, .int .i64 0, .int .i64 0, .int .i64 0, .slice none 0 0] #[.int .i64 0, .int .i64 0, .int .i64 0, .int .i64 0, .int .i64 0, .int .i64 0, .int .i64 0, .int .i64 0, .int .i64 0, .int .i64 0, .int .i64 0, .int .i64 0, .int .i64 0, .slice none 0 0] 27 27)
  have i128 : (128 : Int) ≤ (c : Int) := by omega
  have i64a : (64 : Int) ≤ (c : Int) := by omega
  have jj0 : c ≠ 0 := by omega
  have jj64 : c ≠ 64 := by omega
  clear hb hs
  go_enter Tryd.func16, Tryd.ntmps16
  go_upto_region 2 with fail
  generalize (w.alloc (.cells #[.int .i64 0, .int .i64 0, .int .i64 0, .int .i64 0, .int .i64 0, .int .i64 0, .int .i64 0, .int .i64 0, .int .i64 0, .int .i64 0, .int .i64 0, .int .i64 0, .int .i64 0, .slice none 0 0] 27)).alloc (.cells #[.int .i64 0, .int .i64 0, .int .i64 0, .int .i64 0, .int .i64 0, .int .i64 0, .int .i64 0, .int .i64 0, .int .i64 0, .int .i64 0, .int .i64 0, .int .i64 0, .int .i64 0, .slice none 0 0] 27) = w0 at *
  have HLA0 : Hid (LdAt w (up 0) w0) := ⟨⟨HD0.out.1, HD0.out.2.2⟩, none, 0, 0, by rw [HU0.out]; exact HD0.out.2.1, by rw [HU0.out]; exact SbAt.zero _, (fun ad e => by cases e), fun _ => ⟨rfl, rfl, rfl⟩⟩
  have HI0 : Hid ((up 0).isSome = false) := by show _ = _; rw [HU0.out]; rfl
  clear HD0
  go_wp2_with fail
  go_loopw [5, 6] (fun fv iv wr => ∃ k : Nat, k ≤ 2 ∧ fv = .bool (up k).isSome ∧ iv = .int .i64 (k : Int) ∧ Hid (LdAt w (up k) wr)) (fun _ i _ => 2 - (Go.RowKit.intOf i).toNat)
  case atStart => exact ⟨0, Nat.zero_le _, by rw [HI0.out], rfl, HLA0⟩
  case round =>
    obtain ⟨k, hk, rfl, rfl, hla⟩ := hrel
    obtain ⟨hs0, A, n, c', hbx⟩ := hla.out
    have HS0 := Lib.hid hs0
    have HX0 := Lib.hid hbx
    clear hla hs0 hbx
    have h3 : k = 0 ∨ k = 1 ∨ k = 2 := by omega
    rcases h3 with rfl | rfl | rfl
    case inl =>
      have HUK := Lib.hid HU.out.1
      have HCC := Lib.hid (fun W hW => (HDE.out W hW).1 c (by omega) (by omega))
      have HL1 : Hid (w.heap.size + 1 < wr.heap.size) := (Array.getElem?_eq_some_iff.1 HX0.out.1).1
      generalize sec l 0 = lk at *
      go_wp2_with fail
      refine (HCC.out _ HS0.out.2).mono ?_
      rintro r w2 (⟨s, hgd, A2, n2, c2, rfl, ⟨hat2, hfr2⟩, hb2⟩ | ⟨hno, rfl, hb2⟩)
      · have HGD := Lib.hid hgd
        have HM := Lib.hid (tmod_pos (Sp.gen_pos hgd).1)
        have HS3 : Hid (Sd w w.heap.size _ (w2.alloc (.cells #[.int .i64 s.gen, .int .i64 s.phase, .int .i64 s.mig, .int .i64 s.tail, .int .i64 s.now, .int .i64 s.t.id, .int .i64 s.t.ver, .int .i64 s.t.rs, .int .i64 s.t.reg, .int .i64 s.h.id, .int .i64 s.h.ver, .int .i64 s.h.rs, .int .i64 s.h.reg, .slice A2 n2 c2] 27))) := Sd.boxed (HS0.out.next hb2 (by rfl) (by rfl) (by rfl) (by rfl)) _
        have HX3 : Hid (BoxIs _ _ _ _ _ _ (w2.alloc (.cells #[.int .i64 s.gen, .int .i64 s.phase, .int .i64 s.mig, .int .i64 s.tail, .int .i64 s.now, .int .i64 s.t.id, .int .i64 s.t.ver, .int .i64 s.t.rs, .int .i64 s.t.reg, .int .i64 s.h.id, .int .i64 s.h.ver, .int .i64 s.h.rs, .int .i64 s.h.reg, .slice A2 n2 c2] 27))) := (HX0.out.next hb2).next (below_new _ _)
        have HN3 : Hid ((w2.alloc (.cells #[.int .i64 s.gen, .int .i64 s.phase, .int .i64 s.mig, .int .i64 s.tail, .int .i64 s.now, .int .i64 s.t.id, .int .i64 s.t.ver, .int .i64 s.t.rs, .int .i64 s.t.reg, .int .i64 s.h.id, .int .i64 s.h.ver, .int .i64 s.h.rs, .int .i64 s.h.reg, .slice A2 n2 c2] 27)).heap[w2.heap.size]? = some (.cells #[.int .i64 s.gen, .int .i64 s.phase, .int .i64 s.mig, .int .i64 s.tail, .int .i64 s.now, .int .i64 s.t.id, .int .i64 s.t.ver, .int .i64 s.t.rs, .int .i64 s.t.reg, .int .i64 s.h.id, .int .i64 s.h.ver, .int .i64 s.h.rs, .int .i64 s.h.reg, .slice A2 n2 c2] 27 (0, 0))) := heap_alloc_new _ _
        have HA3 : Hid (SbAt (w2.alloc (.cells #[.int .i64 s.gen, .int .i64 s.phase, .int .i64 s.mig, .int .i64 s.tail, .int .i64 s.now, .int .i64 s.t.id, .int .i64 s.t.ver, .int .i64 s.t.rs, .int .i64 s.t.reg, .int .i64 s.h.id, .int .i64 s.h.ver, .int .i64 s.h.rs, .int .i64 s.h.reg, .slice A2 n2 c2] 27)) (w2.alloc (.cells #[.int .i64 s.gen, .int .i64 s.phase, .int .i64 s.mig, .int .i64 s.tail, .int .i64 s.now, .int .i64 s.t.id, .int .i64 s.t.ver, .int .i64 s.t.rs, .int .i64 s.t.reg, .int .i64 s.h.id, .int .i64 s.h.ver, .int .i64 s.h.rs, .int .i64 s.h.reg, .slice A2 n2 c2] 27)).heap.size s A2 n2 c2 ∧ ∀ ad, A2 = some ad → w.heap.size + 1 < ad.block) := ⟨hat2.next (below_new _ _), fun ad e => Nat.lt_of_lt_of_le HL1.out (hfr2 ad e)⟩
        have HPOS := Lib.hid (Sp.gen_pos hgd).1
        clear hgd hat2 hfr2 hb2 HCC HX0 HS0
        go_upto_region 7 with fail
        generalize w2.alloc (.cells #[.int .i64 s.gen, .int .i64 s.phase, .int .i64 s.mig, .int .i64 s.tail, .int .i64 s.now, .int .i64 s.t.id, .int .i64 s.t.ver, .int .i64 s.t.rs, .int .i64 s.t.reg, .int .i64 s.h.id, .int .i64 s.h.ver, .int .i64 s.h.rs, .int .i64 s.h.reg, .slice A2 n2 c2] 27) = w3 at *
        have HTK : Hid (s.gen % 2 = (0 : Int) → ((up 0).getD Sb.S0).gen < s.gen → up (0 + 1) = some s) := fun q1 q2 => HUK.out.trans (upto_take HGD.out q1 q2)
        have HNK : Hid ((s.gen % 2 ≠ (0 : Int) ∨ ¬ ((up 0).getD Sb.S0).gen < s.gen) → up (0 + 1) = up 0) := fun q => HUK.out.trans (q.elim (upto_other HGD.out) (upto_elder HGD.out))
        have HLX : Hid (up (0 + 1) = up 0 → ∀ W, Below w3.heap.size w3 W → LdAt w (up (0 + 1)) W) := fun e W hW => by
          rw [e]
          exact ⟨HS3.out.next hW (by rfl) (by rfl) (by rfl) (by rfl), A, n, c', HX3.out.next hW⟩
        have HNN : Hid ((up 0).isSome = false → ((up 0).getD Sb.S0).gen < s.gen) := fun e => by
          cases h : up 0 with
          | none => show (0 : Int) < s.gen; have := HPOS.out; omega
          | some b => rw [h] at e; cases e
        have HSM : Hid ((up (0 + 1) = up 0) → (up (0 + 1)).isSome = (up 0).isSome) := fun e => by rw [e]
        unfold BoxIs at HX3
        have HX4 : Hid (w3.heap[w.heap.size + 1]? = some _) := HX3.out.1
        clear HX3 HUK HGD HPOS
        generalize (up 0).getD Sb.S0 = b at *
        generalize (up 0).isSome = f at *
        obtain ⟨x0, x1, x2, x3, x4, x5, x6, x7, x8, x9, x10, x11, x12, x13⟩ := cells14 HN3.out
        obtain ⟨y0, y1, y2, y3, y4, y5, y6, y7, y8, y9, y10, y11, y12, y13⟩ := cells14 HX4.out
        by_cases q1 : s.gen % 2 = (0 : Int)
        · have e1 : (s.gen.tmod 2 == (0 : Int)) = true := by rw [HM.out, beq_iff_eq]; exact q1
          by_cases q2 : b.gen < s.gen
          · have e2 : decide (b.gen < s.gen) = true := decide_eq_true q2
            have HE := Lib.hid (HTK.out q1 q2)
            clear HTK HNK HLX HNN HSM q1 q2
            cases f
            all_goals
              go_upto_region 8 with fail
              obtain ⟨fz0, fz1, fz2, fz3, fz4, fz5, fz6, fz7, fz8, fz9, fz10, fz11, fz12, fz13⟩ := frozen14 HX4.out
              go_wp2_with fail
              go_roundw
              case rel =>
                refine ⟨0 + 1, by decide, by rw [HE.out]; rfl, by go_num, ?_⟩
                show LdAt w (up (0 + 1)) _
                rw [HE.out]
                have h := box_stored HS3.out HX4.out (Nat.lt_succ_self _) HA3.out.1 HA3.out.2 _ rfl
                exact ⟨h.1, A2, n2, c2, h.2⟩
              case measure => simp [Go.RowKit.intOf]
          · have e2 : decide (b.gen < s.gen) = false := decide_eq_false q2
            have hf : f = true := by
              cases f with
              | true => rfl
              | false => exact absurd (HNN.out rfl) q2
            subst hf
            have HE := Lib.hid (HLX.out (HNK.out (.inr q2)))
            have HG := Lib.hid (HSM.out (HNK.out (.inr q2)))
            clear HTK HNK HLX HNN HSM q1 q2
            go_wp2_with fail
            go_roundw
            case rel => exact ⟨0 + 1, by decide, by rw [HG.out], by go_num, HE.out _ (Below.refl _ _)⟩
            case measure => simp [Go.RowKit.intOf]
        · have e1 : (s.gen.tmod 2 == (0 : Int)) = false := by rw [HM.out, beq_eq_false_iff_ne]; exact q1
          have HE := Lib.hid (HLX.out (HNK.out (.inl q1)))
          have HG := Lib.hid (HSM.out (HNK.out (.inl q1)))
          clear HTK HNK HLX HNN HSM q1
          go_wp2_with fail
          go_roundw
          case rel => exact ⟨0 + 1, by decide, by rw [HG.out], by go_num, HE.out _ (Below.refl _ _)⟩
          case measure => simp [Go.RowKit.intOf]
      · have HE : Hid (LdAt w (up (0 + 1)) (w2.alloc (.cells #[.int .i64 0, .int .i64 0, .int .i64 0, .int .i64 0, .int .i64 0, .int .i64 0, .int .i64 0, .int .i64 0, .int .i64 0, .int .i64 0, .int .i64 0, .int .i64 0, .int .i64 0, .slice none 0 0] 27))) := by
          show LdAt _ _ _
          rw [HUK.out, upto_no hno]
          exact ⟨Sd.boxed (HS0.out.next hb2 (by rfl) (by rfl) (by rfl) (by rfl)) _, A, n, c', (HX0.out.next hb2).next (below_new _ _)⟩
        have HG : Hid ((up (0 + 1)).isSome = (up 0).isSome) := by
          show _ = _
          rw [HUK.out, upto_no hno]
        clear hno hb2 HCC HUK HS0 HX0
        go_upto_region 7 with fail
        generalize w2.alloc (.cells #[.int .i64 0, .int .i64 0, .int .i64 0, .int .i64 0, .int .i64 0, .int .i64 0, .int .i64 0, .int .i64 0, .int .i64 0, .int .i64 0, .int .i64 0, .int .i64 0, .int .i64 0, .slice none 0 0] 27) = w3 at *
        go_wp2_with fail
        go_roundw
        case rel => exact ⟨0 + 1, by decide, by rw [HG.out], by go_num, HE⟩
        case measure => simp [Go.RowKit.intOf]
    case inr.inl =>
      have HUK := Lib.hid HU.out.2
      have HCC := Lib.hid (fun W hW => (HDE.out W hW).2 (c - 64) (by omega) (by omega))
      have HL1 : Hid (w.heap.size + 1 < wr.heap.size) := (Array.getElem?_eq_some_iff.1 HX0.out.1).1
      generalize sec l 1 = lk at *
      go_wp2_with fail
      refine (HCC.out _ HS0.out.2).mono ?_
      rintro r w2 (⟨s, hgd, A2, n2, c2, rfl, ⟨hat2, hfr2⟩, hb2⟩ | ⟨hno, rfl, hb2⟩)
      · have HGD := Lib.hid hgd
        have HM := Lib.hid (tmod_pos (Sp.gen_pos hgd).1)
        have HS3 : Hid (Sd w w.heap.size _ (w2.alloc (.cells #[.int .i64 s.gen, .int .i64 s.phase, .int .i64 s.mig, .int .i64 s.tail, .int .i64 s.now, .int .i64 s.t.id, .int .i64 s.t.ver, .int .i64 s.t.rs, .int .i64 s.t.reg, .int .i64 s.h.id, .int .i64 s.h.ver, .int .i64 s.h.rs, .int .i64 s.h.reg, .slice A2 n2 c2] 27))) := Sd.boxed (HS0.out.next hb2 (by rfl) (by rfl) (by rfl) (by rfl)) _
        have HX3 : Hid (BoxIs _ _ _ _ _ _ (w2.alloc (.cells #[.int .i64 s.gen, .int .i64 s.phase, .int .i64 s.mig, .int .i64 s.tail, .int .i64 s.now, .int .i64 s.t.id, .int .i64 s.t.ver, .int .i64 s.t.rs, .int .i64 s.t.reg, .int .i64 s.h.id, .int .i64 s.h.ver, .int .i64 s.h.rs, .int .i64 s.h.reg, .slice A2 n2 c2] 27))) := (HX0.out.next hb2).next (below_new _ _)
        have HN3 : Hid ((w2.alloc (.cells #[.int .i64 s.gen, .int .i64 s.phase, .int .i64 s.mig, .int .i64 s.tail, .int .i64 s.now, .int .i64 s.t.id, .int .i64 s.t.ver, .int .i64 s.t.rs, .int .i64 s.t.reg, .int .i64 s.h.id, .int .i64 s.h.ver, .int .i64 s.h.rs, .int .i64 s.h.reg, .slice A2 n2 c2] 27)).heap[w2.heap.size]? = some (.cells #[.int .i64 s.gen, .int .i64 s.phase, .int .i64 s.mig, .int .i64 s.tail, .int .i64 s.now, .int .i64 s.t.id, .int .i64 s.t.ver, .int .i64 s.t.rs, .int .i64 s.t.reg, .int .i64 s.h.id, .int .i64 s.h.ver, .int .i64 s.h.rs, .int .i64 s.h.reg, .slice A2 n2 c2] 27 (0, 0))) := heap_alloc_new _ _
        have HA3 : Hid (SbAt (w2.alloc (.cells #[.int .i64 s.gen, .int .i64 s.phase, .int .i64 s.mig, .int .i64 s.tail, .int .i64 s.now, .int .i64 s.t.id, .int .i64 s.t.ver, .int .i64 s.t.rs, .int .i64 s.t.reg, .int .i64 s.h.id, .int .i64 s.h.ver, .int .i64 s.h.rs, .int .i64 s.h.reg, .slice A2 n2 c2] 27)) (w2.alloc (.cells #[.int .i64 s.gen, .int .i64 s.phase, .int .i64 s.mig, .int .i64 s.tail, .int .i64 s.now, .int .i64 s.t.id, .int .i64 s.t.ver, .int .i64 s.t.rs, .int .i64 s.t.reg, .int .i64 s.h.id, .int .i64 s.h.ver, .int .i64 s.h.rs, .int .i64 s.h.reg, .slice A2 n2 c2] 27)).heap.size s A2 n2 c2 ∧ ∀ ad, A2 = some ad → w.heap.size + 1 < ad.block) := ⟨hat2.next (below_new _ _), fun ad e => Nat.lt_of_lt_of_le HL1.out (hfr2 ad e)⟩
        have HPOS := Lib.hid (Sp.gen_pos hgd).1
        clear hgd hat2 hfr2 hb2 HCC HX0 HS0
        go_upto_region 7 with fail
        generalize w2.alloc (.cells #[.int .i64 s.gen, .int .i64 s.phase, .int .i64 s.mig, .int .i64 s.tail, .int .i64 s.now, .int .i64 s.t.id, .int .i64 s.t.ver, .int .i64 s.t.rs, .int .i64 s.t.reg, .int .i64 s.h.id, .int .i64 s.h.ver, .int .i64 s.h.rs, .int .i64 s.h.reg, .slice A2 n2 c2] 27) = w3 at *
        have HTK : Hid (s.gen % 2 = (1 : Int) → ((up 1).getD Sb.S0).gen < s.gen → up (1 + 1) = some s) := fun q1 q2 => HUK.out.trans (upto_take HGD.out q1 q2)
        have HNK : Hid ((s.gen % 2 ≠ (1 : Int) ∨ ¬ ((up 1).getD Sb.S0).gen < s.gen) → up (1 + 1) = up 1) := fun q => HUK.out.trans (q.elim (upto_other HGD.out) (upto_elder HGD.out))
        have HLX : Hid (up (1 + 1) = up 1 → ∀ W, Below w3.heap.size w3 W → LdAt w (up (1 + 1)) W) := fun e W hW => by
          rw [e]
          exact ⟨HS3.out.next hW (by rfl) (by rfl) (by rfl) (by rfl), A, n, c', HX3.out.next hW⟩
        have HNN : Hid ((up 1).isSome = false → ((up 1).getD Sb.S0).gen < s.gen) := fun e => by
          cases h : up 1 with
          | none => show (0 : Int) < s.gen; have := HPOS.out; omega
          | some b => rw [h] at e; cases e
        have HSM : Hid ((up (1 + 1) = up 1) → (up (1 + 1)).isSome = (up 1).isSome) := fun e => by rw [e]
        unfold BoxIs at HX3
        have HX4 : Hid (w3.heap[w.heap.size + 1]? = some _) := HX3.out.1
        clear HX3 HUK HGD HPOS
        generalize (up 1).getD Sb.S0 = b at *
        generalize (up 1).isSome = f at *
        obtain ⟨x0, x1, x2, x3, x4, x5, x6, x7, x8, x9, x10, x11, x12, x13⟩ := cells14 HN3.out
        obtain ⟨y0, y1, y2, y3, y4, y5, y6, y7, y8, y9, y10, y11, y12, y13⟩ := cells14 HX4.out
        by_cases q1 : s.gen % 2 = (1 : Int)
        · have e1 : (s.gen.tmod 2 == (1 : Int)) = true := by rw [HM.out, beq_iff_eq]; exact q1
          by_cases q2 : b.gen < s.gen
          · have e2 : decide (b.gen < s.gen) = true := decide_eq_true q2
            have HE := Lib.hid (HTK.out q1 q2)
            clear HTK HNK HLX HNN HSM q1 q2
            cases f
            all_goals
              go_upto_region 8 with fail
              obtain ⟨fz0, fz1, fz2, fz3, fz4, fz5, fz6, fz7, fz8, fz9, fz10, fz11, fz12, fz13⟩ := frozen14 HX4.out
              go_wp2_with fail
              go_roundw
              case rel =>
                refine ⟨1 + 1, by decide, by rw [HE.out]; rfl, by go_num, ?_⟩
                show LdAt w (up (1 + 1)) _
                rw [HE.out]
                have h := box_stored HS3.out HX4.out (Nat.lt_succ_self _) HA3.out.1 HA3.out.2 _ rfl
                exact ⟨h.1, A2, n2, c2, h.2⟩
              case measure => simp [Go.RowKit.intOf]
          · have e2 : decide (b.gen < s.gen) = false := decide_eq_false q2
            have hf : f = true := by
              cases f with
              | true => rfl
              | false => exact absurd (HNN.out rfl) q2
            subst hf
            have HE := Lib.hid (HLX.out (HNK.out (.inr q2)))
            have HG := Lib.hid (HSM.out (HNK.out (.inr q2)))
            clear HTK HNK HLX HNN HSM q1 q2
            go_wp2_with fail
            go_roundw
            case rel => exact ⟨1 + 1, by decide, by rw [HG.out], by go_num, HE.out _ (Below.refl _ _)⟩
            case measure => simp [Go.RowKit.intOf]
        · have e1 : (s.gen.tmod 2 == (1 : Int)) = false := by rw [HM.out, beq_eq_false_iff_ne]; exact q1
          have HE := Lib.hid (HLX.out (HNK.out (.inl q1)))
          have HG := Lib.hid (HSM.out (HNK.out (.inl q1)))
          clear HTK HNK HLX HNN HSM q1
          go_wp2_with fail
          go_roundw
          case rel => exact ⟨1 + 1, by decide, by rw [HG.out], by go_num, HE.out _ (Below.refl _ _)⟩
          case measure => simp [Go.RowKit.intOf]
      · have HE : Hid (LdAt w (up (1 + 1)) (w2.alloc (.cells #[.int .i64 0, .int .i64 0, .int .i64 0, .int .i64 0, .int .i64 0, .int .i64 0, .int .i64 0, .int .i64 0, .int .i64 0, .int .i64 0, .int .i64 0, .int .i64 0, .int .i64 0, .slice none 0 0] 27))) := by
          show LdAt _ _ _
          rw [HUK.out, upto_no hno]
          exact ⟨Sd.boxed (HS0.out.next hb2 (by rfl) (by rfl) (by rfl) (by rfl)) _, A, n, c', (HX0.out.next hb2).next (below_new _ _)⟩
        have HG : Hid ((up (1 + 1)).isSome = (up 1).isSome) := by
          show _ = _
          rw [HUK.out, upto_no hno]
        clear hno hb2 HCC HUK HS0 HX0
        go_upto_region 7 with fail
        generalize w2.alloc (.cells #[.int .i64 0, .int .i64 0, .int .i64 0, .int .i64 0, .int .i64 0, .int .i64 0, .int .i64 0, .int .i64 0, .int .i64 0, .int .i64 0, .int .i64 0, .int .i64 0, .int .i64 0, .slice none 0 0] 27) = w3 at *
        go_wp2_with fail
        go_roundw
        case rel => exact ⟨1 + 1, by decide, by rw [HG.out], by go_num, HE⟩
        case measure => simp [Go.RowKit.intOf]
    case inr.inr =>
      rw [HF.out] at HX0 ⊢
      unfold BoxIs at HX0
      have HBB : Hid (∃ b, b = nw.getD Sb.S0) := ⟨_, rfl⟩
      obtain ⟨b, hbb⟩ := HBB.out
      rw [← hbb] at HX0
      have HBE := Lib.hid hbb
      clear hbb HBB
      obtain ⟨y0, y1, y2, y3, y4, y5, y6, y7, y8, y9, y10, y11, y12, y13⟩ := cells14 HX0.out.1
      obtain ⟨x0, x1, x2, x3, x4, x5, x6, x7, x8, x9, x10, x11, x12, x13⟩ := cells14 HS0.out.1
      obtain ⟨fz0, fz1, fz2, fz3, fz4, fz5, fz6, fz7, fz8, fz9, fz10, fz11, fz12, fz13⟩ := frozen14 HS0.out.1
      have HB0 := Lib.hid HX0.out
      clear HX0 HU HF HDE
      go_wp2_with fail
      (try simp only [Exit.inBlock, Exit.then])
      refine bodyPost_ret (results_row2 rfl _ _ w.heap.size _ _ (0, 0) _ rfl (stored14 HS0.out.1) Tryd.underlying27 rfl (by kernel_rfl)) rfl ?_
      have HGR := stored14_grown wr w.heap.size (.int .i64 b.gen) (.int .i64 b.phase) (.int .i64 b.mig) (.int .i64 b.tail) (.int .i64 b.now) (.int .i64 b.t.id) (.int .i64 b.t.ver) (.int .i64 b.t.rs) (.int .i64 b.t.reg) (.int .i64 b.h.id) (.int .i64 b.h.ver) (.int .i64 b.h.rs) (.int .i64 b.h.reg) (.slice A n c')
      cases nw with
      | none =>
        obtain ⟨rfl, rfl, rfl⟩ := HB0.out.2.2.2 rfl
        obtain rfl : b = Sb.S0 := HBE.out
        exact .inr ⟨rfl, rfl, HS0.out.2.trans (below_of_grown HGR (Nat.le_refl _) HS0.out.2.size)⟩
      | some s =>
        obtain rfl : b = s := HBE.out
        refine .inl ⟨b, rfl, A, n, c', rfl, ⟨(HB0.out.2.1.grown HGR (fun k hk ad e => by have := HB0.out.2.2.1 ad e; omega)).own, fun ad e => by have := HB0.out.2.2.1 ad e; omega⟩, HS0.out.2.trans (below_of_grown HGR (Nat.le_refl _) HS0.out.2.size)⟩
end Go.Proofs.YtcjnhemlkahgoaaDoor
