/-
  The walk of Load on a device of one sector, and of the law PairLoad.
-/
import Derived.Test.YtcjnhemlkahgoaaDoorSpAwake
import Derived.Test.YtcjnhemlkahgoaaDoorSpRef
set_option maxRecDepth 100000
namespace Go.Proofs.YtcjnhemlkahgoaaDoor
open Go.RowKit
set_option maxHeartbeats 8000000 in
theorem spload_one (g cb m nn : Nat) (fs : Flash) (w : World) (hn : nn = 1) (hdead : Hid (fs.dead = false)) (ht : Hid (TabW w)) (hz : 0 < w.heap.size) (hd : Hid (Dev w g cb m nn fs)) :
    Calls Tryd.prog 14 #[.pointer (some ⟨g, 0, none⟩)] w (NoSb w) := by
  have HR : Hid (∀ W (k : Nat), k < 1 → Below w.heap.size w W → Calls Tryd.prog 43 #[.pointer (some ⟨g, 0, none⟩), .int .i64 (k : Int)] W (ReadOk W (sec fs.cur k))) := fun W k hk hW =>
    read_ok k (k : Int) rfl (by omega) (Lib.hid (hd.out.below hW hd.out.lt.1 hd.out.lt.2.1 hd.out.lt.2.2)) hdead
  have HRN : Hid (∀ W, Below w.heap.size w W → Calls Tryd.prog 43 #[.pointer (some ⟨g, 0, none⟩), .int .i64 1] W (ReadNo W 2)) := fun W hW =>
    read_range 1 (.inr (by omega)) (Lib.hid (hd.out.below hW hd.out.lt.1 hd.out.lt.2.1 hd.out.lt.2.2)) hdead
  have HDE : Hid (∀ W (k gr cap : Nat), Below w.heap.size w W → (sec fs.cur k).length = 64 → Bs W W.heap.size (some ⟨gr, 0, none⟩) (sec fs.cur k) → 64 ≤ cap → cap ≤ maxLen → Calls Tryd.prog 8 #[.slice (some ⟨gr, 0, none⟩) 64 cap, .int .i64 (k : Int)] W (DecSb W (k : Int) (sec fs.cur k))) := fun W k gr cap hW h64 hbs h1 h2 =>
    sbdecode_any (k : Int) _ W.heap.size 64 cap _ W (Nat.le_refl _) ⟨(fun e => by cases e), h1, by unfold maxLen at h2; exact h2⟩ h64 hbs (ht.out.below hW hz) (Nat.lt_of_lt_of_le hz hW.size)
  have HU : Hid (∀ k : Nat, k < 2 → Sp.upto (sec fs.cur 0) (sec fs.cur 1) (k + 1) = Sp.over (Sp.upto (sec fs.cur 0) (sec fs.cur 1) k) (Sp.cand (k : Int) (sec fs.cur k))) := fun k hk => by
    have : k = 0 ∨ k = 1 := by omega
    rcases this with rfl | rfl
    · exact Sp.upto_one _ _
    · exact Sp.upto_two _ _
  have HF : Hid (Sp.upto (sec fs.cur 0) (sec fs.cur 1) 2 = Sp.newest (sec fs.cur 0) (sec fs.cur 1)) := rfl
  have HG : Hid (∀ s, Sp.newest (sec fs.cur 0) (sec fs.cur 1) = some s → 0 < s.gen) := fun s hs => by
    unfold Sp.newest at hs
    have h1 := fun s => Sp.cand_of (x := 0) (l := sec fs.cur 0) (s := s)
    have h2 := fun s => Sp.cand_of (x := 1) (l := sec fs.cur 1) (s := s)
    generalize Sp.cand 0 (sec fs.cur 0) = c0 at *
    generalize Sp.cand 1 (sec fs.cur 1) = c1 at *
    have : c0 = some s ∨ c1 = some s := by
      cases c1 with
      | none => cases c0 with
        | none => cases hs
        | some b => exact .inl hs
      | some b => cases c0 with
        | none => exact .inr hs
        | some a =>
          by_cases hlt : a.gen < b.gen
          · rw [Sp.over_newer hlt] at hs; exact .inr hs
          · rw [Sp.over_elder hlt] at hs; exact .inl hs
    rcases this with e | e
    · have := Sp.gen_pos (h1 s e).1; omega
    · have := Sp.gen_pos (h2 s e).1; omega
  have HU0 : Hid (Sp.upto (sec fs.cur 0) (sec fs.cur 1) 0 = none) := rfl
  generalize Sp.upto (sec fs.cur 0) (sec fs.cur 1) = up at *
  generalize Sp.newest (sec fs.cur 0) (sec fs.cur 1) = nw at *
  have HSO := Lib.hid (fun a0 a1 a2 a3 a4 t0 t1 t2 t3 h0 h1 h2 h3 A n c W => sectorof_any a0 a1 a2 a3 a4 t0 t1 t2 t3 h0 h1 h2 h3 A n c W)
  unfold ReadOk at HR
  unfold ReadNo at HRN
  unfold NoSb
  unfold DecSb HasSb NoSb at HDE
  have HD0 := Lib.hid (sd2_new w #[.int .i64 0, .int .i64 0, .int .i64 0, .int .i64 0, .int .i64 0, .int .i64 0, .int .i64 0, .int .i64 0, .int .i64 0, .int .i64 0, .int .i64 0, .int .i64 0, .int .i64 0, .slice none 0 0] #[.int .i64 0, .int .i64 0, .int .i64 0, .int .i64 0, .int .i64 0, .int .i64 0, .int .i64 0, .int .i64 0, .int .i64 0, .int .i64 0, .int .i64 0, .int .i64 0, .int .i64 0, .slice none 0 0] 27 27)
  clear ht hd hdead
  go_enter Tryd.func14, Tryd.ntmps14
  go_upto_region 2 with fail
  generalize (w.alloc (.cells #[.int .i64 0, .int .i64 0, .int .i64 0, .int .i64 0, .int .i64 0, .int .i64 0, .int .i64 0, .int .i64 0, .int .i64 0, .int .i64 0, .int .i64 0, .int .i64 0, .int .i64 0, .slice none 0 0] 27)).alloc (.cells #[.int .i64 0, .int .i64 0, .int .i64 0, .int .i64 0, .int .i64 0, .int .i64 0, .int .i64 0, .int .i64 0, .int .i64 0, .int .i64 0, .int .i64 0, .int .i64 0, .int .i64 0, .slice none 0 0] 27) = w0 at *
  have HLA0 : Hid (LdAt w (up 0) w0) := ⟨⟨HD0.out.1, HD0.out.2.2⟩, none, 0, 0, by rw [HU0.out]; exact HD0.out.2.1, by rw [HU0.out]; exact SbAt.zero _, (fun ad e => by cases e), fun _ => ⟨rfl, rfl, rfl⟩⟩
  clear HD0
  go_wp2_with fail
  go_loopw [11] (fun iv wr => ∃ k : Nat, k ≤ 1 ∧ iv = .int .i64 (k : Int) ∧ Hid (LdAt w (up k) wr)) (fun i _ => 2 - (intOf i).toNat)
  case atStart => exact ⟨0, Nat.zero_le _, rfl, HLA0⟩
  case round =>
    obtain ⟨k, hk, rfl, hla⟩ := hrel
    obtain ⟨hs0, A, n, c, hbx⟩ := hla.out
    have HS0 := Lib.hid hs0
    have HX0 := Lib.hid hbx
    clear hla hs0 hbx
    by_cases hlt : k < 1
    · have HUK := Lib.hid (HU.out k (by omega))
      have HFN : Hid (up (k + 1) = up (k + 1)) := rfl
      go_wp2_with fail
      refine (HR.out _ k hlt HS0.out.2).mono ?_
      rintro r w1 ⟨gr, cap, rfl, -, h64, hbs, hc1, hc2, hb1⟩
      have HS1 := Lib.hid (HS0.out.next hb1 (by rfl) (by rfl) (by rfl) (by rfl))
      have HX1 := Lib.hid (HX0.out.next hb1)
      have HC := Lib.hid (HDE.out _ k gr cap HS1.out.2 h64 hbs hc1 hc2)
      have HL1 : Hid (w.heap.size + 1 < w1.heap.size) := (Array.getElem?_eq_some_iff.1 HX1.out.1).1
      clear hbs hb1 HS0 HX0
      generalize sec fs.cur k = lk at *
      go_wp2_with fail
      refine HC.out.mono ?_
      rintro r w2 (⟨s, hgd, A2, n2, c2, rfl, ⟨hat2, hfr2⟩, hb2⟩ | ⟨hno, rfl, hb2⟩)
      · have HGD := Lib.hid hgd
        have HM := Lib.hid (tmod_pos (Sp.gen_pos hgd).1)
        have HS3 : Hid (Sd w w.heap.size _ (w2.alloc (.cells #[.int .i64 s.gen, .int .i64 s.phase, .int .i64 s.mig, .int .i64 s.tail, .int .i64 s.now, .int .i64 s.t.id, .int .i64 s.t.ver, .int .i64 s.t.rs, .int .i64 s.t.reg, .int .i64 s.h.id, .int .i64 s.h.ver, .int .i64 s.h.rs, .int .i64 s.h.reg, .slice A2 n2 c2] 27))) := Sd.boxed (HS1.out.next hb2 (by rfl) (by rfl) (by rfl) (by rfl)) _
        have HX3 : Hid (BoxIs _ _ _ _ _ _ (w2.alloc (.cells #[.int .i64 s.gen, .int .i64 s.phase, .int .i64 s.mig, .int .i64 s.tail, .int .i64 s.now, .int .i64 s.t.id, .int .i64 s.t.ver, .int .i64 s.t.rs, .int .i64 s.t.reg, .int .i64 s.h.id, .int .i64 s.h.ver, .int .i64 s.h.rs, .int .i64 s.h.reg, .slice A2 n2 c2] 27))) := (HX1.out.next hb2).next ((Below.refl _ w2).alloc (Nat.le_refl _) _)
        have HN3 : Hid ((w2.alloc (.cells #[.int .i64 s.gen, .int .i64 s.phase, .int .i64 s.mig, .int .i64 s.tail, .int .i64 s.now, .int .i64 s.t.id, .int .i64 s.t.ver, .int .i64 s.t.rs, .int .i64 s.t.reg, .int .i64 s.h.id, .int .i64 s.h.ver, .int .i64 s.h.rs, .int .i64 s.h.reg, .slice A2 n2 c2] 27)).heap[w2.heap.size]? = some (.cells #[.int .i64 s.gen, .int .i64 s.phase, .int .i64 s.mig, .int .i64 s.tail, .int .i64 s.now, .int .i64 s.t.id, .int .i64 s.t.ver, .int .i64 s.t.rs, .int .i64 s.t.reg, .int .i64 s.h.id, .int .i64 s.h.ver, .int .i64 s.h.rs, .int .i64 s.h.reg, .slice A2 n2 c2] 27 (0, 0))) := heap_alloc_new _ _
        have HA3 : Hid (SbAt (w2.alloc (.cells #[.int .i64 s.gen, .int .i64 s.phase, .int .i64 s.mig, .int .i64 s.tail, .int .i64 s.now, .int .i64 s.t.id, .int .i64 s.t.ver, .int .i64 s.t.rs, .int .i64 s.t.reg, .int .i64 s.h.id, .int .i64 s.h.ver, .int .i64 s.h.rs, .int .i64 s.h.reg, .slice A2 n2 c2] 27)) (w2.alloc (.cells #[.int .i64 s.gen, .int .i64 s.phase, .int .i64 s.mig, .int .i64 s.tail, .int .i64 s.now, .int .i64 s.t.id, .int .i64 s.t.ver, .int .i64 s.t.rs, .int .i64 s.t.reg, .int .i64 s.h.id, .int .i64 s.h.ver, .int .i64 s.h.rs, .int .i64 s.h.reg, .slice A2 n2 c2] 27)).heap.size s A2 n2 c2 ∧ ∀ ad, A2 = some ad → w.heap.size + 1 < ad.block) := ⟨hat2.next ((Below.refl _ w2).alloc (Nat.le_refl _) _), fun ad e => Nat.lt_of_lt_of_le HL1.out (hfr2 ad e)⟩
        clear hgd hat2 hfr2 hb2 HC
        go_upto_region 9 with fail
        generalize w2.alloc (.cells #[.int .i64 s.gen, .int .i64 s.phase, .int .i64 s.mig, .int .i64 s.tail, .int .i64 s.now, .int .i64 s.t.id, .int .i64 s.t.ver, .int .i64 s.t.rs, .int .i64 s.t.reg, .int .i64 s.h.id, .int .i64 s.h.ver, .int .i64 s.h.rs, .int .i64 s.h.reg, .slice A2 n2 c2] 27) = w3 at *
        have HTK : Hid (s.gen % 2 = (k : Int) → ((up k).getD Sb.S0).gen < s.gen → up (k + 1) = some s) := fun q1 q2 => HUK.out.trans (upto_take HGD.out q1 q2)
        have HNK : Hid ((s.gen % 2 ≠ (k : Int) ∨ ¬ ((up k).getD Sb.S0).gen < s.gen) → up (k + 1) = up k) := fun q => HUK.out.trans (q.elim (upto_other HGD.out) (upto_elder HGD.out))
        have HLX : Hid (up (k + 1) = up k → ∀ W, Below w3.heap.size w3 W → LdAt w (up (k + 1)) W) := fun e W hW => by
          rw [e]
          exact ⟨HS3.out.next hW (by rfl) (by rfl) (by rfl) (by rfl), A, n, c, HX3.out.next hW⟩
        unfold BoxIs at HX3
        have HX4 : Hid (w3.heap[w.heap.size + 1]? = some _) := HX3.out.1
        clear HX3 HX1 HUK HGD
        generalize (up k).getD Sb.S0 = b at *
        obtain ⟨x0, x1, x2, x3, x4, x5, x6, x7, x8, x9, x10, x11, x12, x13⟩ := cells14 HN3.out
        obtain ⟨y0, y1, y2, y3, y4, y5, y6, y7, y8, y9, y10, y11, y12, y13⟩ := cells14 HX4.out
        by_cases q1 : s.gen % 2 = (k : Int)
        · have e1 : (s.gen.tmod 2 == (k : Int)) = true := by rw [HM.out, beq_iff_eq]; exact q1
          by_cases q2 : b.gen < s.gen
          · have e2 : decide (b.gen < s.gen) = true := decide_eq_true q2
            have HE := Lib.hid (HTK.out q1 q2)
            clear HTK HNK HLX q1 q2
            go_upto_region 10 with (go_at_call 44; refine (HSO.out s.gen s.phase s.mig s.tail s.now s.t.id s.t.ver s.t.rs s.t.reg s.h.id s.h.ver s.h.rs s.h.reg A2 n2 c2 _).mono ?_; rintro r w5 ⟨rfl, hb5⟩; have HS5 := Lib.hid (HS3.out.next hb5 (by rfl) (by rfl) (by rfl) (by rfl)); have HX5 : Hid (w5.heap[w.heap.size + 1]? = some _) := (hb5.block _ (Array.getElem?_eq_some_iff.1 HX4.out).1).trans HX4.out; have HN5 : Hid (w5.heap[w2.heap.size]? = some _) := (hb5.block _ (Array.getElem?_eq_some_iff.1 HN3.out).1).trans HN3.out; have HA5 : Hid (SbAt w5 w5.heap.size s A2 n2 c2 ∧ _) := ⟨HA3.out.1.next hb5, HA3.out.2⟩; have HB5 := Lib.hid hb5; clear hb5 x0 x1 x2 x3 x4 x5 x6 x7 x8 x9 x10 x11 x12 x13 y0 y1 y2 y3 y4 y5 y6 y7 y8 y9 y10 y11 y12 y13; obtain ⟨x0, x1, x2, x3, x4, x5, x6, x7, x8, x9, x10, x11, x12, x13⟩ := cells14 HN5.out; obtain ⟨y0, y1, y2, y3, y4, y5, y6, y7, y8, y9, y10, y11, y12, y13⟩ := cells14 HX5.out)
            obtain ⟨fz0, fz1, fz2, fz3, fz4, fz5, fz6, fz7, fz8, fz9, fz10, fz11, fz12, fz13⟩ := frozen14 HX5.out
            go_wp2_with fail
            go_roundw
            case rel =>
              refine ⟨k + 1, by omega, by go_num, ?_⟩
              show LdAt w (up (k + 1)) _
              rw [HE.out]
              have h := box_stored HS5.out HX5.out (Nat.lt_succ_self _) HA5.out.1 HA5.out.2 _ rfl
              exact ⟨h.1, A2, n2, c2, h.2⟩
            case measure => simp [intOf]; omega
          · have e2 : decide (b.gen < s.gen) = false := decide_eq_false q2
            have HE := Lib.hid (HLX.out (HNK.out (.inr q2)))
            clear HTK HNK HLX q1 q2
            go_wp2_with (go_at_call 44; refine (HSO.out s.gen s.phase s.mig s.tail s.now s.t.id s.t.ver s.t.rs s.t.reg s.h.id s.h.ver s.h.rs s.h.reg A2 n2 c2 _).mono ?_; rintro r w5 ⟨rfl, hb5⟩; have HS5 := Lib.hid (HS3.out.next hb5 (by rfl) (by rfl) (by rfl) (by rfl)); have HX5 : Hid (w5.heap[w.heap.size + 1]? = some _) := (hb5.block _ (Array.getElem?_eq_some_iff.1 HX4.out).1).trans HX4.out; have HN5 : Hid (w5.heap[w2.heap.size]? = some _) := (hb5.block _ (Array.getElem?_eq_some_iff.1 HN3.out).1).trans HN3.out; have HA5 : Hid (SbAt w5 w5.heap.size s A2 n2 c2 ∧ _) := ⟨HA3.out.1.next hb5, HA3.out.2⟩; have HB5 := Lib.hid hb5; clear hb5 x0 x1 x2 x3 x4 x5 x6 x7 x8 x9 x10 x11 x12 x13 y0 y1 y2 y3 y4 y5 y6 y7 y8 y9 y10 y11 y12 y13; obtain ⟨x0, x1, x2, x3, x4, x5, x6, x7, x8, x9, x10, x11, x12, x13⟩ := cells14 HN5.out; obtain ⟨y0, y1, y2, y3, y4, y5, y6, y7, y8, y9, y10, y11, y12, y13⟩ := cells14 HX5.out)
            go_roundw
            case rel => exact ⟨k + 1, by omega, by go_num, HE.out _ HB5.out⟩
            case measure => simp [intOf]; omega
        · have e1 : (s.gen.tmod 2 == (k : Int)) = false := by rw [HM.out, beq_eq_false_iff_ne]; exact q1
          have HE := Lib.hid (HLX.out (HNK.out (.inl q1)))
          clear HTK HNK HLX q1
          go_wp2_with (go_at_call 44; refine (HSO.out s.gen s.phase s.mig s.tail s.now s.t.id s.t.ver s.t.rs s.t.reg s.h.id s.h.ver s.h.rs s.h.reg A2 n2 c2 _).mono ?_; rintro r w5 ⟨rfl, hb5⟩; have HS5 := Lib.hid (HS3.out.next hb5 (by rfl) (by rfl) (by rfl) (by rfl)); have HX5 : Hid (w5.heap[w.heap.size + 1]? = some _) := (hb5.block _ (Array.getElem?_eq_some_iff.1 HX4.out).1).trans HX4.out; have HN5 : Hid (w5.heap[w2.heap.size]? = some _) := (hb5.block _ (Array.getElem?_eq_some_iff.1 HN3.out).1).trans HN3.out; have HA5 : Hid (SbAt w5 w5.heap.size s A2 n2 c2 ∧ _) := ⟨HA3.out.1.next hb5, HA3.out.2⟩; have HB5 := Lib.hid hb5; clear hb5 x0 x1 x2 x3 x4 x5 x6 x7 x8 x9 x10 x11 x12 x13 y0 y1 y2 y3 y4 y5 y6 y7 y8 y9 y10 y11 y12 y13; obtain ⟨x0, x1, x2, x3, x4, x5, x6, x7, x8, x9, x10, x11, x12, x13⟩ := cells14 HN5.out; obtain ⟨y0, y1, y2, y3, y4, y5, y6, y7, y8, y9, y10, y11, y12, y13⟩ := cells14 HX5.out)
          go_roundw
          case rel => exact ⟨k + 1, by omega, by go_num, HE.out _ HB5.out⟩
          case measure => simp [intOf]; omega
      · have HE : Hid (LdAt w (up (k + 1)) (w2.alloc (.cells #[.int .i64 0, .int .i64 0, .int .i64 0, .int .i64 0, .int .i64 0, .int .i64 0, .int .i64 0, .int .i64 0, .int .i64 0, .int .i64 0, .int .i64 0, .int .i64 0, .int .i64 0, .slice none 0 0] 27))) := by
          show LdAt _ _ _
          rw [HUK.out, upto_no hno]
          exact ⟨Sd.boxed (HS1.out.next hb2 (by rfl) (by rfl) (by rfl) (by rfl)) _, A, n, c, (HX1.out.next hb2).next ((Below.refl _ w2).alloc (Nat.le_refl _) _)⟩
        clear hno hb2 HC HUK HX1 HS1
        go_upto_region 9 with fail
        generalize w2.alloc (.cells #[.int .i64 0, .int .i64 0, .int .i64 0, .int .i64 0, .int .i64 0, .int .i64 0, .int .i64 0, .int .i64 0, .int .i64 0, .int .i64 0, .int .i64 0, .int .i64 0, .int .i64 0, .slice none 0 0] 27) = w3 at *
        go_wp2_with fail
        go_roundw
        case rel => exact ⟨k + 1, by omega, by go_num, HE⟩
        case measure => simp [intOf]; omega
    · obtain rfl : k = 1 := by omega
      clear HX0
      go_wp2_with fail
      refine (HRN.out _ HS0.out.2).mono ?_
      rintro r w1 ⟨rfl, rfl⟩
      obtain ⟨x0, x1, x2, x3, x4, x5, x6, x7, x8, x9, x10, x11, x12, x13⟩ := cells14 HS0.out.1
      obtain ⟨fz0, fz1, fz2, fz3, fz4, fz5, fz6, fz7, fz8, fz9, fz10, fz11, fz12, fz13⟩ := frozen14 HS0.out.1
      go_wp2_with fail
      (try simp only [Exit.inBlock, Exit.then])
      refine bodyPost_ret (results_row2 rfl _ _ w.heap.size _ _ (0, 0) _ rfl (stored14 HS0.out.1) Tryd.underlying27 rfl (by kernel_rfl)) rfl ?_
      exact ⟨rfl, HS0.out.2.trans (below_of_grown (stored14_grown _ w.heap.size (.int .i64 0) (.int .i64 0) (.int .i64 0) (.int .i64 0) (.int .i64 0) (.int .i64 0) (.int .i64 0) (.int .i64 0) (.int .i64 0) (.int .i64 0) (.int .i64 0) (.int .i64 0) (.int .i64 0) (.slice none 0 0)) (Nat.le_refl _) HS0.out.2.size)⟩

theorem newest_short {l0 l1 : List Nat} : ((Sp.newest l0 l1).getD Sb.S0).f.length ≤ 2 := by
  have h : ∀ s, Sp.newest l0 l1 = some s → s.f.length ≤ 2 := fun s hs => by
    unfold Sp.newest at hs
    have h1 := fun s => Sp.cand_of (x := 0) (l := l0) (s := s)
    have h2 := fun s => Sp.cand_of (x := 1) (l := l1) (s := s)
    generalize Sp.cand 0 l0 = c0 at *
    generalize Sp.cand 1 l1 = c1 at *
    have : c0 = some s ∨ c1 = some s := by
      cases c1 with
      | none => cases c0 with
        | none => cases hs
        | some b => exact .inl hs
      | some b => cases c0 with
        | none => exact .inr hs
        | some a =>
          by_cases hlt : a.gen < b.gen
          · rw [Sp.over_newer hlt] at hs; exact .inr hs
          · rw [Sp.over_elder hlt] at hs; exact .inl hs
    rcases this with e | e
    · exact valid_short (h1 s e).1.2.1
    · exact valid_short (h2 s e).1.2.1
  cases hn : Sp.newest l0 l1 with
  | none => exact Nat.zero_le _
  | some s => exact h s hn
set_option maxHeartbeats 8000000 in
theorem pairload_any (A0 : Option Addr) (n0 c0 : Nat) (l0 : List Nat) (w : World) (hs0 : SlIs A0 n0 c0) (hb0 : Hid (l0.length = n0 ∧ Bs w w.heap.size A0 l0)) (ht : Hid (TabW w)) (hz : 0 < w.heap.size) :
    Calls Tryd.prog 4 #[.slice A0 n0 c0] w fun r w' => r = .returned (.bool true) ∧ Below w.heap.size w w' := by
  obtain ⟨m, hm⟩ := min_is n0 256
  have hm256 : m ≤ 256 := by unfold MinIs at hm; omega
  have HTB : Hid (∀ W, Below w.heap.size w W → TabW W ∧ 0 < W.heap.size) := fun W hW => dev_tab ht.out hz hW
  have AW : Hid (∀ W, Below w.heap.size w W → Calls Tryd.prog 15 #[] W fun r w' => r = .returned (.bool true) ∧ Below W.heap.size W w') := fun W hW => spawake_any W (HTB.out W hW).1 (HTB.out W hW).2
  obtain ⟨a1, a2⟩ := min_bs hb0.out.1 hb0.out.2 hm
  have q := min_sl hs0 hm
  have HEQ : Hid (∀ (u : Sb.S), u.f.length ≤ 2 → ∀ (A A' : Option Addr) (n c n' c' : Nat) (W : World), SbAt W W.heap.size u A n c → SbAt W W.heap.size u A' n' c' → Calls Tryd.prog 10 #[.agg #[.int .i64 u.gen, .int .i64 u.phase, .int .i64 u.mig, .int .i64 u.tail, .int .i64 u.now, .int .i64 u.t.id, .int .i64 u.t.ver, .int .i64 u.t.rs, .int .i64 u.t.reg, .int .i64 u.h.id, .int .i64 u.h.ver, .int .i64 u.h.rs, .int .i64 u.h.reg, .slice A n c], .agg #[.int .i64 u.gen, .int .i64 u.phase, .int .i64 u.mig, .int .i64 u.tail, .int .i64 u.now, .int .i64 u.t.id, .int .i64 u.t.ver, .int .i64 u.t.rs, .int .i64 u.t.reg, .int .i64 u.h.id, .int .i64 u.h.ver, .int .i64 u.h.rs, .int .i64 u.h.reg, .slice A' n' c']] W fun r w' => r = .returned (.bool true) ∧ Below W.heap.size W w') := fun u hu A A' n c n' c' W h h' => by
    have k := refeq_sb u u (by omega) (by omega) A A' n c n' c' W h h'
    rwa [Sb.same_self] at k
  have HE0 : Hid (∀ W, Calls Tryd.prog 10 #[.agg #[.int .i64 0, .int .i64 0, .int .i64 0, .int .i64 0, .int .i64 0, .int .i64 0, .int .i64 0, .int .i64 0, .int .i64 0, .int .i64 0, .int .i64 0, .int .i64 0, .int .i64 0, .slice none 0 0], .agg #[.int .i64 0, .int .i64 0, .int .i64 0, .int .i64 0, .int .i64 0, .int .i64 0, .int .i64 0, .int .i64 0, .int .i64 0, .int .i64 0, .int .i64 0, .int .i64 0, .int .i64 0, .slice none 0 0]] W fun r w' => r = .returned (.bool true) ∧ Below W.heap.size W w') := fun W => HEQ.out Sb.S0 (Nat.zero_le _) none none 0 0 0 0 W (SbAt.zero W) (SbAt.zero W)
  have hnc0 := hs0.2.1
  have hc63 := hs0.2.2
  have HNA := Lib.hid hs0.1
  have HQ := Lib.hid q
  have HB0 : Hid ((l0.take m).length = m ∧ Bs w w.heap.size A0 (l0.take m)) := ⟨a1, a2⟩
  clear a1 a2 q hs0 hb0 ht
  generalize l0.take m = l at *
  have hcase : ((m < 128 ∧ m ≠ 64) ∨ (128 ≤ m ∧ m % 64 ≠ 0)) ∨ m = 64 ∨ m = 2 * 64 ∨ m = 3 * 64 ∨ m = 4 * 64 := by omega
  go_enter Tryd.func4, Tryd.ntmps4
  go_upto_region 1 with fail
  go_cut [0] (fun s wx => s = .slice A0 m c0 ∧ w = wx)
  case first =>
    unfold MinIs at hm
    rcases hm with ⟨i0, rfl⟩ | ⟨i0, rfl⟩
    all_goals
      go_wp2_with fail
      go_meet
      exact ⟨by first | rfl | (congr 1; omega), rfl⟩
  case rest =>
    obtain ⟨rfl, rfl⟩ := hcut
    clear hm hnc0 hc63
    have HW0 : Hid (Below w.heap.size w w) := Below.refl _ _
    rcases hcase with h | h | h | h | h
    case inl =>
      have LD : Hid (Calls Tryd.prog 13 #[.slice A0 m c0] w fun e w' => e = .returned (.pointer none) ∧ w = w') := load_no A0 m c0 w (by omega) (by omega)
      have LN := Lib.hid (load_nil w)
      unfold NoSb at LN
      rcases h with ⟨h1, h2⟩ | ⟨h1, h2⟩
      case inl =>
        have d0 : decide ((m : Int) < 128) = true := decide_eq_true (by omega)
        clear h1 h2
        go_wp2_with fail
        refine LD.out.mono ?_
        rintro r w1 ⟨rfl, rfl⟩
        go_wp2_with fail
        refine LN.out.mono ?_
        rintro r w3 ⟨rfl, hb3⟩
        have HB3 : Hid (Below w.heap.size w (w3.alloc (.cells #[.int .i64 0, .int .i64 0, .int .i64 0, .int .i64 0, .int .i64 0, .int .i64 0, .int .i64 0, .int .i64 0, .int .i64 0, .int .i64 0, .int .i64 0, .int .i64 0, .int .i64 0, .slice none 0 0] 27))) := below_made hb3 (Nat.le_refl _) _
        have HN3 : Hid ((w3.alloc (.cells #[.int .i64 0, .int .i64 0, .int .i64 0, .int .i64 0, .int .i64 0, .int .i64 0, .int .i64 0, .int .i64 0, .int .i64 0, .int .i64 0, .int .i64 0, .int .i64 0, .int .i64 0, .slice none 0 0] 27)).heap[w3.heap.size]? = some (.cells #[.int .i64 0, .int .i64 0, .int .i64 0, .int .i64 0, .int .i64 0, .int .i64 0, .int .i64 0, .int .i64 0, .int .i64 0, .int .i64 0, .int .i64 0, .int .i64 0, .int .i64 0, .slice none 0 0] 27 (0, 0))) := heap_alloc_new _ _
        clear hb3
        go_upto_region 4 with fail
        generalize w3.alloc (.cells #[.int .i64 0, .int .i64 0, .int .i64 0, .int .i64 0, .int .i64 0, .int .i64 0, .int .i64 0, .int .i64 0, .int .i64 0, .int .i64 0, .int .i64 0, .int .i64 0, .int .i64 0, .slice none 0 0] 27) = w4 at *
        go_wp2_with (first
          | (go_at_call 10; refine (HE0.out _).mono ?_; rintro r w6 ⟨rfl, hb6⟩; have HB6 : Hid (Below w.heap.size w w6) := HB5.out.trans (hb6.mono HB5.out.size); clear hb6)
          | (go_at_call 15; refine (AW.out _ HB3.out).mono ?_; rintro r w5 ⟨rfl, hb5⟩; have HB5 : Hid (Below w.heap.size w w5) := HB3.out.trans (hb5.mono HB3.out.size); have HN5 : Hid (w5.heap[w3.heap.size]? = some _) := box_on HN3.out hb5; clear hb5; obtain ⟨x0, x1, x2, x3, x4, x5, x6, x7, x8, x9, x10, x11, x12, x13⟩ := cells14 HN5.out))
        go_ret
        exact ⟨rfl, HB6.out⟩
      case inr =>
        have d0 : decide ((m : Int) < 128) = false := decide_eq_false (by omega)
        have d1 : ((m : Int) % 64 != 0) = true := by rw [bne_iff_ne]; omega
        clear h1 h2
        go_wp2_with fail
        refine LD.out.mono ?_
        rintro r w1 ⟨rfl, rfl⟩
        go_wp2_with fail
        refine LN.out.mono ?_
        rintro r w3 ⟨rfl, hb3⟩
        have HB3 : Hid (Below w.heap.size w (w3.alloc (.cells #[.int .i64 0, .int .i64 0, .int .i64 0, .int .i64 0, .int .i64 0, .int .i64 0, .int .i64 0, .int .i64 0, .int .i64 0, .int .i64 0, .int .i64 0, .int .i64 0, .int .i64 0, .slice none 0 0] 27))) := below_made hb3 (Nat.le_refl _) _
        have HN3 : Hid ((w3.alloc (.cells #[.int .i64 0, .int .i64 0, .int .i64 0, .int .i64 0, .int .i64 0, .int .i64 0, .int .i64 0, .int .i64 0, .int .i64 0, .int .i64 0, .int .i64 0, .int .i64 0, .int .i64 0, .slice none 0 0] 27)).heap[w3.heap.size]? = some (.cells #[.int .i64 0, .int .i64 0, .int .i64 0, .int .i64 0, .int .i64 0, .int .i64 0, .int .i64 0, .int .i64 0, .int .i64 0, .int .i64 0, .int .i64 0, .int .i64 0, .int .i64 0, .slice none 0 0] 27 (0, 0))) := heap_alloc_new _ _
        clear hb3
        go_upto_region 4 with fail
        generalize w3.alloc (.cells #[.int .i64 0, .int .i64 0, .int .i64 0, .int .i64 0, .int .i64 0, .int .i64 0, .int .i64 0, .int .i64 0, .int .i64 0, .int .i64 0, .int .i64 0, .int .i64 0, .int .i64 0, .slice none 0 0] 27) = w4 at *
        go_wp2_with (first
          | (go_at_call 10; refine (HE0.out _).mono ?_; rintro r w6 ⟨rfl, hb6⟩; have HB6 : Hid (Below w.heap.size w w6) := HB5.out.trans (hb6.mono HB5.out.size); clear hb6)
          | (go_at_call 15; refine (AW.out _ HB3.out).mono ?_; rintro r w5 ⟨rfl, hb5⟩; have HB5 : Hid (Below w.heap.size w w5) := HB3.out.trans (hb5.mono HB3.out.size); have HN5 : Hid (w5.heap[w3.heap.size]? = some _) := box_on HN3.out hb5; clear hb5; obtain ⟨x0, x1, x2, x3, x4, x5, x6, x7, x8, x9, x10, x11, x12, x13⟩ := cells14 HN5.out))
        go_ret
        exact ⟨rfl, HB6.out⟩
    case inr.inl =>
      subst h
      have LD : Hid (Calls Tryd.prog 13 #[.slice A0 64 c0] w (MadeDev w 1 l)) := load_yes A0 w.heap.size 1 c0 l w (fun e => by have := HNA.out e; have := HQ.out.2.1; omega) HB0.out.1 (by decide) (by decide) HB0.out.2
      have LO : Hid (∀ W g c m, Below w.heap.size w W → Dev W g c m 1 (Flash.fresh l) → Calls Tryd.prog 14 #[.pointer (some ⟨g, 0, none⟩)] W (NoSb W)) := fun W g c m hW hd => spload_one g c m 1 _ W rfl (show _ = _ from rfl) (HTB.out W hW).1 (HTB.out W hW).2 hd
      unfold NoSb at LO
      unfold MadeDev at LD
      go_wp2_with fail
      refine LD.out.mono ?_
      rintro r w1 ⟨g, c, md, rfl, hd1, -, -, -, hb1⟩
      have HB1 := Lib.hid hb1
      have HD1 := Lib.hid hd1
      clear hb1 hd1
      go_wp2_with fail
      refine (LO.out _ g c md HB1.out HD1.out).mono ?_
      rintro r w3 ⟨rfl, hb3⟩
      have HB3 : Hid (Below w.heap.size w (w3.alloc (.cells #[.int .i64 0, .int .i64 0, .int .i64 0, .int .i64 0, .int .i64 0, .int .i64 0, .int .i64 0, .int .i64 0, .int .i64 0, .int .i64 0, .int .i64 0, .int .i64 0, .int .i64 0, .slice none 0 0] 27))) := below_made (HB1.out.trans (hb3.mono HB1.out.size)) (Nat.le_refl _) _
      have HN3 : Hid ((w3.alloc (.cells #[.int .i64 0, .int .i64 0, .int .i64 0, .int .i64 0, .int .i64 0, .int .i64 0, .int .i64 0, .int .i64 0, .int .i64 0, .int .i64 0, .int .i64 0, .int .i64 0, .int .i64 0, .slice none 0 0] 27)).heap[w3.heap.size]? = some (.cells #[.int .i64 0, .int .i64 0, .int .i64 0, .int .i64 0, .int .i64 0, .int .i64 0, .int .i64 0, .int .i64 0, .int .i64 0, .int .i64 0, .int .i64 0, .int .i64 0, .int .i64 0, .slice none 0 0] 27 (0, 0))) := heap_alloc_new _ _
      clear hb3
      go_upto_region 4 with fail
      generalize w3.alloc (.cells #[.int .i64 0, .int .i64 0, .int .i64 0, .int .i64 0, .int .i64 0, .int .i64 0, .int .i64 0, .int .i64 0, .int .i64 0, .int .i64 0, .int .i64 0, .int .i64 0, .int .i64 0, .slice none 0 0] 27) = w4 at *
      go_wp2_with (first
        | (go_at_call 10; refine (HE0.out _).mono ?_; rintro r w6 ⟨rfl, hb6⟩; have HB6 : Hid (Below w.heap.size w w6) := HB5.out.trans (hb6.mono HB5.out.size); clear hb6)
        | (go_at_call 15; refine (AW.out _ HB3.out).mono ?_; rintro r w5 ⟨rfl, hb5⟩; have HB5 : Hid (Below w.heap.size w w5) := HB3.out.trans (hb5.mono HB3.out.size); have HN5 : Hid (w5.heap[w3.heap.size]? = some _) := box_on HN3.out hb5; clear hb5; obtain ⟨x0, x1, x2, x3, x4, x5, x6, x7, x8, x9, x10, x11, x12, x13⟩ := cells14 HN5.out))
      go_ret
      exact ⟨rfl, HB6.out⟩
    case inr.inr.inl => 
      subst h
      have LD : Hid (Calls Tryd.prog 13 #[.slice A0 128 c0] w (MadeDev w 2 l)) := load_yes A0 w.heap.size 2 c0 l w (fun e => by have := HNA.out e; have := HQ.out.2.1; omega) HB0.out.1 (by decide) (by decide) HB0.out.2
      obtain ⟨nw, hnw⟩ : ∃ nw, nw = Sp.newest (sec l 0) (sec l 1) := ⟨_, rfl⟩
      have LO : Hid (∀ W g c m, Below w.heap.size w W → Dev W g c m 2 (Flash.fresh l) → Calls Tryd.prog 14 #[.pointer (some ⟨g, 0, none⟩)] W (GotS W (nw.getD Sb.S0) nw.isSome)) := fun W g c m hW hd => by
        rw [hnw]
        exact (spload_any g c m 2 _ W (by decide) (show _ = _ from rfl) (HTB.out W hW).1 (HTB.out W hW).2 hd).mono fun r w' h => gots_load h
      have RO : Hid (∀ W, Below w.heap.size w W → Calls Tryd.prog 16 #[.slice A0 128 c0] W (GotS W (nw.getD Sb.S0) nw.isSome)) := fun W hW => by
        rw [hnw]
        exact (refpload_any A0 128 c0 l W HQ.out (Lib.hid ⟨HB0.out.1, bs_own (HB0.out.2.below hW (Nat.le_refl _))⟩) (by decide)).mono fun r w' h => gots_load h
      have HSH : Hid ((nw.getD Sb.S0).f.length ≤ 2) := by show _ ≤ _; rw [hnw]; exact newest_short
      clear hnw HQ HB0 HNA
      generalize nw.getD Sb.S0 = s at *
      generalize nw.isSome = t at *
      have htt : (t == t) = true := by cases t <;> rfl
      unfold GotS at LO RO
      unfold MadeDev at LD
      go_wp2_with fail
      refine LD.out.mono ?_
      rintro r w1 ⟨g, c, md, rfl, hd1, -, -, -, hb1⟩
      have HB1 := Lib.hid hb1
      have HD1 := Lib.hid hd1
      clear hb1 hd1
      go_wp2_with fail
      refine (LO.out _ g c md HB1.out HD1.out).mono ?_
      rintro r w3 ⟨A3, n3, c3, rfl, ⟨hat3, -⟩, hb3⟩
      have HB3 : Hid (Below w.heap.size w (w3.alloc (.cells #[.int .i64 s.gen, .int .i64 s.phase, .int .i64 s.mig, .int .i64 s.tail, .int .i64 s.now, .int .i64 s.t.id, .int .i64 s.t.ver, .int .i64 s.t.rs, .int .i64 s.t.reg, .int .i64 s.h.id, .int .i64 s.h.ver, .int .i64 s.h.rs, .int .i64 s.h.reg, .slice A3 n3 c3] 27))) := below_made (HB1.out.trans (hb3.mono HB1.out.size)) (Nat.le_refl _) _
      have HN3 : Hid ((w3.alloc (.cells #[.int .i64 s.gen, .int .i64 s.phase, .int .i64 s.mig, .int .i64 s.tail, .int .i64 s.now, .int .i64 s.t.id, .int .i64 s.t.ver, .int .i64 s.t.rs, .int .i64 s.t.reg, .int .i64 s.h.id, .int .i64 s.h.ver, .int .i64 s.h.rs, .int .i64 s.h.reg, .slice A3 n3 c3] 27)).heap[w3.heap.size]? = some (.cells #[.int .i64 s.gen, .int .i64 s.phase, .int .i64 s.mig, .int .i64 s.tail, .int .i64 s.now, .int .i64 s.t.id, .int .i64 s.t.ver, .int .i64 s.t.rs, .int .i64 s.t.reg, .int .i64 s.h.id, .int .i64 s.h.ver, .int .i64 s.h.rs, .int .i64 s.h.reg, .slice A3 n3 c3] 27 (0, 0))) := heap_alloc_new _ _
      have HA3 : Hid (SbAt (w3.alloc (.cells #[.int .i64 s.gen, .int .i64 s.phase, .int .i64 s.mig, .int .i64 s.tail, .int .i64 s.now, .int .i64 s.t.id, .int .i64 s.t.ver, .int .i64 s.t.rs, .int .i64 s.t.reg, .int .i64 s.h.id, .int .i64 s.h.ver, .int .i64 s.h.rs, .int .i64 s.h.reg, .slice A3 n3 c3] 27)) (w3.alloc (.cells #[.int .i64 s.gen, .int .i64 s.phase, .int .i64 s.mig, .int .i64 s.tail, .int .i64 s.now, .int .i64 s.t.id, .int .i64 s.t.ver, .int .i64 s.t.rs, .int .i64 s.t.reg, .int .i64 s.h.id, .int .i64 s.h.ver, .int .i64 s.h.rs, .int .i64 s.h.reg, .slice A3 n3 c3] 27)).heap.size s A3 n3 c3) := hat3.on (below_new _ _)
      clear hat3 hb3
      go_upto_region 4 with fail
      generalize w3.alloc (.cells #[.int .i64 s.gen, .int .i64 s.phase, .int .i64 s.mig, .int .i64 s.tail, .int .i64 s.now, .int .i64 s.t.id, .int .i64 s.t.ver, .int .i64 s.t.rs, .int .i64 s.t.reg, .int .i64 s.h.id, .int .i64 s.h.ver, .int .i64 s.h.rs, .int .i64 s.h.reg, .slice A3 n3 c3] 27) = w4 at *
      go_wp2_with fail
      refine (RO.out _ HB3.out).mono ?_
      rintro r w5 ⟨A5, n5, c5, rfl, ⟨hat5, -⟩, hb5⟩
      have HB5 : Hid (Below w.heap.size w (w5.alloc (.cells #[.int .i64 s.gen, .int .i64 s.phase, .int .i64 s.mig, .int .i64 s.tail, .int .i64 s.now, .int .i64 s.t.id, .int .i64 s.t.ver, .int .i64 s.t.rs, .int .i64 s.t.reg, .int .i64 s.h.id, .int .i64 s.h.ver, .int .i64 s.h.rs, .int .i64 s.h.reg, .slice A5 n5 c5] 27))) := below_made (HB3.out.trans (hb5.mono HB3.out.size)) (Nat.le_refl _) _
      have HN5 : Hid ((w5.alloc (.cells #[.int .i64 s.gen, .int .i64 s.phase, .int .i64 s.mig, .int .i64 s.tail, .int .i64 s.now, .int .i64 s.t.id, .int .i64 s.t.ver, .int .i64 s.t.rs, .int .i64 s.t.reg, .int .i64 s.h.id, .int .i64 s.h.ver, .int .i64 s.h.rs, .int .i64 s.h.reg, .slice A5 n5 c5] 27)).heap[w5.heap.size]? = some (.cells #[.int .i64 s.gen, .int .i64 s.phase, .int .i64 s.mig, .int .i64 s.tail, .int .i64 s.now, .int .i64 s.t.id, .int .i64 s.t.ver, .int .i64 s.t.rs, .int .i64 s.t.reg, .int .i64 s.h.id, .int .i64 s.h.ver, .int .i64 s.h.rs, .int .i64 s.h.reg, .slice A5 n5 c5] 27 (0, 0))) := heap_alloc_new _ _
      have HM5 : Hid ((w5.alloc (.cells #[.int .i64 s.gen, .int .i64 s.phase, .int .i64 s.mig, .int .i64 s.tail, .int .i64 s.now, .int .i64 s.t.id, .int .i64 s.t.ver, .int .i64 s.t.rs, .int .i64 s.t.reg, .int .i64 s.h.id, .int .i64 s.h.ver, .int .i64 s.h.rs, .int .i64 s.h.reg, .slice A5 n5 c5] 27)).heap[w3.heap.size]? = some (.cells #[.int .i64 s.gen, .int .i64 s.phase, .int .i64 s.mig, .int .i64 s.tail, .int .i64 s.now, .int .i64 s.t.id, .int .i64 s.t.ver, .int .i64 s.t.rs, .int .i64 s.t.reg, .int .i64 s.h.id, .int .i64 s.h.ver, .int .i64 s.h.rs, .int .i64 s.h.reg, .slice A3 n3 c3] 27 (0, 0))) := box_on (box_on HN3.out hb5) (below_new _ _)
      have HA5 : Hid (SbAt (w5.alloc (.cells #[.int .i64 s.gen, .int .i64 s.phase, .int .i64 s.mig, .int .i64 s.tail, .int .i64 s.now, .int .i64 s.t.id, .int .i64 s.t.ver, .int .i64 s.t.rs, .int .i64 s.t.reg, .int .i64 s.h.id, .int .i64 s.h.ver, .int .i64 s.h.rs, .int .i64 s.h.reg, .slice A5 n5 c5] 27)) (w5.alloc (.cells #[.int .i64 s.gen, .int .i64 s.phase, .int .i64 s.mig, .int .i64 s.tail, .int .i64 s.now, .int .i64 s.t.id, .int .i64 s.t.ver, .int .i64 s.t.rs, .int .i64 s.t.reg, .int .i64 s.h.id, .int .i64 s.h.ver, .int .i64 s.h.rs, .int .i64 s.h.reg, .slice A5 n5 c5] 27)).heap.size s A5 n5 c5) := hat5.on (below_new _ _)
      have HC5 : Hid (SbAt (w5.alloc (.cells #[.int .i64 s.gen, .int .i64 s.phase, .int .i64 s.mig, .int .i64 s.tail, .int .i64 s.now, .int .i64 s.t.id, .int .i64 s.t.ver, .int .i64 s.t.rs, .int .i64 s.t.reg, .int .i64 s.h.id, .int .i64 s.h.ver, .int .i64 s.h.rs, .int .i64 s.h.reg, .slice A5 n5 c5] 27)) (w5.alloc (.cells #[.int .i64 s.gen, .int .i64 s.phase, .int .i64 s.mig, .int .i64 s.tail, .int .i64 s.now, .int .i64 s.t.id, .int .i64 s.t.ver, .int .i64 s.t.rs, .int .i64 s.t.reg, .int .i64 s.h.id, .int .i64 s.h.ver, .int .i64 s.h.rs, .int .i64 s.h.reg, .slice A5 n5 c5] 27)).heap.size s A3 n3 c3) := (HA3.out.on hb5).on (below_new _ _)
      clear hat5 hb5 HN3 HA3
      go_upto_region 7 with fail
      generalize w5.alloc (.cells #[.int .i64 s.gen, .int .i64 s.phase, .int .i64 s.mig, .int .i64 s.tail, .int .i64 s.now, .int .i64 s.t.id, .int .i64 s.t.ver, .int .i64 s.t.rs, .int .i64 s.t.reg, .int .i64 s.h.id, .int .i64 s.h.ver, .int .i64 s.h.rs, .int .i64 s.h.reg, .slice A5 n5 c5] 27) = w6 at *
      go_wp2_with (first
        | (go_at_call 10; revert HC7; intro HC7; refine (HEQ.out s HSH.out A3 A5 n3 c3 n5 c5 w7 HC7.out.1 HC7.out.2).mono ?_; rintro r w8 ⟨rfl, hb8⟩; have HB8 : Hid (Below w.heap.size w w8) := HB7.out.trans (hb8.mono HB7.out.size); clear hb8)
        | (go_at_call 15; refine (AW.out _ HB5.out).mono ?_; rintro r w7 ⟨rfl, hb7⟩; have HB7 : Hid (Below w.heap.size w w7) := HB5.out.trans (hb7.mono HB5.out.size); have HC7 := Lib.hid (And.intro (HC5.out.on hb7) (HA5.out.on hb7)); have HX7 : Hid (w7.heap[w3.heap.size]? = some _) := box_on HM5.out hb7; have HY7 : Hid (w7.heap[w5.heap.size]? = some _) := box_on HN5.out hb7; clear hb7; obtain ⟨x0, x1, x2, x3, x4, x5, x6, x7, x8, x9, x10, x11, x12, x13⟩ := cells14 HX7.out; obtain ⟨y0, y1, y2, y3, y4, y5, y6, y7, y8, y9, y10, y11, y12, y13⟩ := cells14 HY7.out))
      go_ret
      exact ⟨ret_bool (by simp), HB8.out⟩
    case inr.inr.inr.inl => 
      subst h
      have LD : Hid (Calls Tryd.prog 13 #[.slice A0 192 c0] w (MadeDev w 3 l)) := load_yes A0 w.heap.size 3 c0 l w (fun e => by have := HNA.out e; have := HQ.out.2.1; omega) HB0.out.1 (by decide) (by decide) HB0.out.2
      obtain ⟨nw, hnw⟩ : ∃ nw, nw = Sp.newest (sec l 0) (sec l 1) := ⟨_, rfl⟩
      have LO : Hid (∀ W g c m, Below w.heap.size w W → Dev W g c m 3 (Flash.fresh l) → Calls Tryd.prog 14 #[.pointer (some ⟨g, 0, none⟩)] W (GotS W (nw.getD Sb.S0) nw.isSome)) := fun W g c m hW hd => by
        rw [hnw]
        exact (spload_any g c m 3 _ W (by decide) (show _ = _ from rfl) (HTB.out W hW).1 (HTB.out W hW).2 hd).mono fun r w' h => gots_load h
      have RO : Hid (∀ W, Below w.heap.size w W → Calls Tryd.prog 16 #[.slice A0 192 c0] W (GotS W (nw.getD Sb.S0) nw.isSome)) := fun W hW => by
        rw [hnw]
        exact (refpload_any A0 192 c0 l W HQ.out (Lib.hid ⟨HB0.out.1, bs_own (HB0.out.2.below hW (Nat.le_refl _))⟩) (by decide)).mono fun r w' h => gots_load h
      have HSH : Hid ((nw.getD Sb.S0).f.length ≤ 2) := by show _ ≤ _; rw [hnw]; exact newest_short
      clear hnw HQ HB0 HNA
      generalize nw.getD Sb.S0 = s at *
      generalize nw.isSome = t at *
      have htt : (t == t) = true := by cases t <;> rfl
      unfold GotS at LO RO
      unfold MadeDev at LD
      go_wp2_with fail
      refine LD.out.mono ?_
      rintro r w1 ⟨g, c, md, rfl, hd1, -, -, -, hb1⟩
      have HB1 := Lib.hid hb1
      have HD1 := Lib.hid hd1
      clear hb1 hd1
      go_wp2_with fail
      refine (LO.out _ g c md HB1.out HD1.out).mono ?_
      rintro r w3 ⟨A3, n3, c3, rfl, ⟨hat3, -⟩, hb3⟩
      have HB3 : Hid (Below w.heap.size w (w3.alloc (.cells #[.int .i64 s.gen, .int .i64 s.phase, .int .i64 s.mig, .int .i64 s.tail, .int .i64 s.now, .int .i64 s.t.id, .int .i64 s.t.ver, .int .i64 s.t.rs, .int .i64 s.t.reg, .int .i64 s.h.id, .int .i64 s.h.ver, .int .i64 s.h.rs, .int .i64 s.h.reg, .slice A3 n3 c3] 27))) := below_made (HB1.out.trans (hb3.mono HB1.out.size)) (Nat.le_refl _) _
      have HN3 : Hid ((w3.alloc (.cells #[.int .i64 s.gen, .int .i64 s.phase, .int .i64 s.mig, .int .i64 s.tail, .int .i64 s.now, .int .i64 s.t.id, .int .i64 s.t.ver, .int .i64 s.t.rs, .int .i64 s.t.reg, .int .i64 s.h.id, .int .i64 s.h.ver, .int .i64 s.h.rs, .int .i64 s.h.reg, .slice A3 n3 c3] 27)).heap[w3.heap.size]? = some (.cells #[.int .i64 s.gen, .int .i64 s.phase, .int .i64 s.mig, .int .i64 s.tail, .int .i64 s.now, .int .i64 s.t.id, .int .i64 s.t.ver, .int .i64 s.t.rs, .int .i64 s.t.reg, .int .i64 s.h.id, .int .i64 s.h.ver, .int .i64 s.h.rs, .int .i64 s.h.reg, .slice A3 n3 c3] 27 (0, 0))) := heap_alloc_new _ _
      have HA3 : Hid (SbAt (w3.alloc (.cells #[.int .i64 s.gen, .int .i64 s.phase, .int .i64 s.mig, .int .i64 s.tail, .int .i64 s.now, .int .i64 s.t.id, .int .i64 s.t.ver, .int .i64 s.t.rs, .int .i64 s.t.reg, .int .i64 s.h.id, .int .i64 s.h.ver, .int .i64 s.h.rs, .int .i64 s.h.reg, .slice A3 n3 c3] 27)) (w3.alloc (.cells #[.int .i64 s.gen, .int .i64 s.phase, .int .i64 s.mig, .int .i64 s.tail, .int .i64 s.now, .int .i64 s.t.id, .int .i64 s.t.ver, .int .i64 s.t.rs, .int .i64 s.t.reg, .int .i64 s.h.id, .int .i64 s.h.ver, .int .i64 s.h.rs, .int .i64 s.h.reg, .slice A3 n3 c3] 27)).heap.size s A3 n3 c3) := hat3.on (below_new _ _)
      clear hat3 hb3
      go_upto_region 4 with fail
      generalize w3.alloc (.cells #[.int .i64 s.gen, .int .i64 s.phase, .int .i64 s.mig, .int .i64 s.tail, .int .i64 s.now, .int .i64 s.t.id, .int .i64 s.t.ver, .int .i64 s.t.rs, .int .i64 s.t.reg, .int .i64 s.h.id, .int .i64 s.h.ver, .int .i64 s.h.rs, .int .i64 s.h.reg, .slice A3 n3 c3] 27) = w4 at *
      go_wp2_with fail
      refine (RO.out _ HB3.out).mono ?_
      rintro r w5 ⟨A5, n5, c5, rfl, ⟨hat5, -⟩, hb5⟩
      have HB5 : Hid (Below w.heap.size w (w5.alloc (.cells #[.int .i64 s.gen, .int .i64 s.phase, .int .i64 s.mig, .int .i64 s.tail, .int .i64 s.now, .int .i64 s.t.id, .int .i64 s.t.ver, .int .i64 s.t.rs, .int .i64 s.t.reg, .int .i64 s.h.id, .int .i64 s.h.ver, .int .i64 s.h.rs, .int .i64 s.h.reg, .slice A5 n5 c5] 27))) := below_made (HB3.out.trans (hb5.mono HB3.out.size)) (Nat.le_refl _) _
      have HN5 : Hid ((w5.alloc (.cells #[.int .i64 s.gen, .int .i64 s.phase, .int .i64 s.mig, .int .i64 s.tail, .int .i64 s.now, .int .i64 s.t.id, .int .i64 s.t.ver, .int .i64 s.t.rs, .int .i64 s.t.reg, .int .i64 s.h.id, .int .i64 s.h.ver, .int .i64 s.h.rs, .int .i64 s.h.reg, .slice A5 n5 c5] 27)).heap[w5.heap.size]? = some (.cells #[.int .i64 s.gen, .int .i64 s.phase, .int .i64 s.mig, .int .i64 s.tail, .int .i64 s.now, .int .i64 s.t.id, .int .i64 s.t.ver, .int .i64 s.t.rs, .int .i64 s.t.reg, .int .i64 s.h.id, .int .i64 s.h.ver, .int .i64 s.h.rs, .int .i64 s.h.reg, .slice A5 n5 c5] 27 (0, 0))) := heap_alloc_new _ _
      have HM5 : Hid ((w5.alloc (.cells #[.int .i64 s.gen, .int .i64 s.phase, .int .i64 s.mig, .int .i64 s.tail, .int .i64 s.now, .int .i64 s.t.id, .int .i64 s.t.ver, .int .i64 s.t.rs, .int .i64 s.t.reg, .int .i64 s.h.id, .int .i64 s.h.ver, .int .i64 s.h.rs, .int .i64 s.h.reg, .slice A5 n5 c5] 27)).heap[w3.heap.size]? = some (.cells #[.int .i64 s.gen, .int .i64 s.phase, .int .i64 s.mig, .int .i64 s.tail, .int .i64 s.now, .int .i64 s.t.id, .int .i64 s.t.ver, .int .i64 s.t.rs, .int .i64 s.t.reg, .int .i64 s.h.id, .int .i64 s.h.ver, .int .i64 s.h.rs, .int .i64 s.h.reg, .slice A3 n3 c3] 27 (0, 0))) := box_on (box_on HN3.out hb5) (below_new _ _)
      have HA5 : Hid (SbAt (w5.alloc (.cells #[.int .i64 s.gen, .int .i64 s.phase, .int .i64 s.mig, .int .i64 s.tail, .int .i64 s.now, .int .i64 s.t.id, .int .i64 s.t.ver, .int .i64 s.t.rs, .int .i64 s.t.reg, .int .i64 s.h.id, .int .i64 s.h.ver, .int .i64 s.h.rs, .int .i64 s.h.reg, .slice A5 n5 c5] 27)) (w5.alloc (.cells #[.int .i64 s.gen, .int .i64 s.phase, .int .i64 s.mig, .int .i64 s.tail, .int .i64 s.now, .int .i64 s.t.id, .int .i64 s.t.ver, .int .i64 s.t.rs, .int .i64 s.t.reg, .int .i64 s.h.id, .int .i64 s.h.ver, .int .i64 s.h.rs, .int .i64 s.h.reg, .slice A5 n5 c5] 27)).heap.size s A5 n5 c5) := hat5.on (below_new _ _)
      have HC5 : Hid (SbAt (w5.alloc (.cells #[.int .i64 s.gen, .int .i64 s.phase, .int .i64 s.mig, .int .i64 s.tail, .int .i64 s.now, .int .i64 s.t.id, .int .i64 s.t.ver, .int .i64 s.t.rs, .int .i64 s.t.reg, .int .i64 s.h.id, .int .i64 s.h.ver, .int .i64 s.h.rs, .int .i64 s.h.reg, .slice A5 n5 c5] 27)) (w5.alloc (.cells #[.int .i64 s.gen, .int .i64 s.phase, .int .i64 s.mig, .int .i64 s.tail, .int .i64 s.now, .int .i64 s.t.id, .int .i64 s.t.ver, .int .i64 s.t.rs, .int .i64 s.t.reg, .int .i64 s.h.id, .int .i64 s.h.ver, .int .i64 s.h.rs, .int .i64 s.h.reg, .slice A5 n5 c5] 27)).heap.size s A3 n3 c3) := (HA3.out.on hb5).on (below_new _ _)
      clear hat5 hb5 HN3 HA3
      go_upto_region 7 with fail
      generalize w5.alloc (.cells #[.int .i64 s.gen, .int .i64 s.phase, .int .i64 s.mig, .int .i64 s.tail, .int .i64 s.now, .int .i64 s.t.id, .int .i64 s.t.ver, .int .i64 s.t.rs, .int .i64 s.t.reg, .int .i64 s.h.id, .int .i64 s.h.ver, .int .i64 s.h.rs, .int .i64 s.h.reg, .slice A5 n5 c5] 27) = w6 at *
      go_wp2_with (first
        | (go_at_call 10; revert HC7; intro HC7; refine (HEQ.out s HSH.out A3 A5 n3 c3 n5 c5 w7 HC7.out.1 HC7.out.2).mono ?_; rintro r w8 ⟨rfl, hb8⟩; have HB8 : Hid (Below w.heap.size w w8) := HB7.out.trans (hb8.mono HB7.out.size); clear hb8)
        | (go_at_call 15; refine (AW.out _ HB5.out).mono ?_; rintro r w7 ⟨rfl, hb7⟩; have HB7 : Hid (Below w.heap.size w w7) := HB5.out.trans (hb7.mono HB5.out.size); have HC7 := Lib.hid (And.intro (HC5.out.on hb7) (HA5.out.on hb7)); have HX7 : Hid (w7.heap[w3.heap.size]? = some _) := box_on HM5.out hb7; have HY7 : Hid (w7.heap[w5.heap.size]? = some _) := box_on HN5.out hb7; clear hb7; obtain ⟨x0, x1, x2, x3, x4, x5, x6, x7, x8, x9, x10, x11, x12, x13⟩ := cells14 HX7.out; obtain ⟨y0, y1, y2, y3, y4, y5, y6, y7, y8, y9, y10, y11, y12, y13⟩ := cells14 HY7.out))
      go_ret
      exact ⟨ret_bool (by simp), HB8.out⟩
    case inr.inr.inr.inr => 
      subst h
      have LD : Hid (Calls Tryd.prog 13 #[.slice A0 256 c0] w (MadeDev w 4 l)) := load_yes A0 w.heap.size 4 c0 l w (fun e => by have := HNA.out e; have := HQ.out.2.1; omega) HB0.out.1 (by decide) (by decide) HB0.out.2
      obtain ⟨nw, hnw⟩ : ∃ nw, nw = Sp.newest (sec l 0) (sec l 1) := ⟨_, rfl⟩
      have LO : Hid (∀ W g c m, Below w.heap.size w W → Dev W g c m 4 (Flash.fresh l) → Calls Tryd.prog 14 #[.pointer (some ⟨g, 0, none⟩)] W (GotS W (nw.getD Sb.S0) nw.isSome)) := fun W g c m hW hd => by
        rw [hnw]
        exact (spload_any g c m 4 _ W (by decide) (show _ = _ from rfl) (HTB.out W hW).1 (HTB.out W hW).2 hd).mono fun r w' h => gots_load h
      have RO : Hid (∀ W, Below w.heap.size w W → Calls Tryd.prog 16 #[.slice A0 256 c0] W (GotS W (nw.getD Sb.S0) nw.isSome)) := fun W hW => by
        rw [hnw]
        exact (refpload_any A0 256 c0 l W HQ.out (Lib.hid ⟨HB0.out.1, bs_own (HB0.out.2.below hW (Nat.le_refl _))⟩) (by decide)).mono fun r w' h => gots_load h
      have HSH : Hid ((nw.getD Sb.S0).f.length ≤ 2) := by show _ ≤ _; rw [hnw]; exact newest_short
      clear hnw HQ HB0 HNA
      generalize nw.getD Sb.S0 = s at *
      generalize nw.isSome = t at *
      have htt : (t == t) = true := by cases t <;> rfl
      unfold GotS at LO RO
      unfold MadeDev at LD
      go_wp2_with fail
      refine LD.out.mono ?_
      rintro r w1 ⟨g, c, md, rfl, hd1, -, -, -, hb1⟩
      have HB1 := Lib.hid hb1
      have HD1 := Lib.hid hd1
      clear hb1 hd1
      go_wp2_with fail
      refine (LO.out _ g c md HB1.out HD1.out).mono ?_
      rintro r w3 ⟨A3, n3, c3, rfl, ⟨hat3, -⟩, hb3⟩
      have HB3 : Hid (Below w.heap.size w (w3.alloc (.cells #[.int .i64 s.gen, .int .i64 s.phase, .int .i64 s.mig, .int .i64 s.tail, .int .i64 s.now, .int .i64 s.t.id, .int .i64 s.t.ver, .int .i64 s.t.rs, .int .i64 s.t.reg, .int .i64 s.h.id, .int .i64 s.h.ver, .int .i64 s.h.rs, .int .i64 s.h.reg, .slice A3 n3 c3] 27))) := below_made (HB1.out.trans (hb3.mono HB1.out.size)) (Nat.le_refl _) _
      have HN3 : Hid ((w3.alloc (.cells #[.int .i64 s.gen, .int .i64 s.phase, .int .i64 s.mig, .int .i64 s.tail, .int .i64 s.now, .int .i64 s.t.id, .int .i64 s.t.ver, .int .i64 s.t.rs, .int .i64 s.t.reg, .int .i64 s.h.id, .int .i64 s.h.ver, .int .i64 s.h.rs, .int .i64 s.h.reg, .slice A3 n3 c3] 27)).heap[w3.heap.size]? = some (.cells #[.int .i64 s.gen, .int .i64 s.phase, .int .i64 s.mig, .int .i64 s.tail, .int .i64 s.now, .int .i64 s.t.id, .int .i64 s.t.ver, .int .i64 s.t.rs, .int .i64 s.t.reg, .int .i64 s.h.id, .int .i64 s.h.ver, .int .i64 s.h.rs, .int .i64 s.h.reg, .slice A3 n3 c3] 27 (0, 0))) := heap_alloc_new _ _
      have HA3 : Hid (SbAt (w3.alloc (.cells #[.int .i64 s.gen, .int .i64 s.phase, .int .i64 s.mig, .int .i64 s.tail, .int .i64 s.now, .int .i64 s.t.id, .int .i64 s.t.ver, .int .i64 s.t.rs, .int .i64 s.t.reg, .int .i64 s.h.id, .int .i64 s.h.ver, .int .i64 s.h.rs, .int .i64 s.h.reg, .slice A3 n3 c3] 27)) (w3.alloc (.cells #[.int .i64 s.gen, .int .i64 s.phase, .int .i64 s.mig, .int .i64 s.tail, .int .i64 s.now, .int .i64 s.t.id, .int .i64 s.t.ver, .int .i64 s.t.rs, .int .i64 s.t.reg, .int .i64 s.h.id, .int .i64 s.h.ver, .int .i64 s.h.rs, .int .i64 s.h.reg, .slice A3 n3 c3] 27)).heap.size s A3 n3 c3) := hat3.on (below_new _ _)
      clear hat3 hb3
      go_upto_region 4 with fail
      generalize w3.alloc (.cells #[.int .i64 s.gen, .int .i64 s.phase, .int .i64 s.mig, .int .i64 s.tail, .int .i64 s.now, .int .i64 s.t.id, .int .i64 s.t.ver, .int .i64 s.t.rs, .int .i64 s.t.reg, .int .i64 s.h.id, .int .i64 s.h.ver, .int .i64 s.h.rs, .int .i64 s.h.reg, .slice A3 n3 c3] 27) = w4 at *
      go_wp2_with fail
      refine (RO.out _ HB3.out).mono ?_
      rintro r w5 ⟨A5, n5, c5, rfl, ⟨hat5, -⟩, hb5⟩
      have HB5 : Hid (Below w.heap.size w (w5.alloc (.cells #[.int .i64 s.gen, .int .i64 s.phase, .int .i64 s.mig, .int .i64 s.tail, .int .i64 s.now, .int .i64 s.t.id, .int .i64 s.t.ver, .int .i64 s.t.rs, .int .i64 s.t.reg, .int .i64 s.h.id, .int .i64 s.h.ver, .int .i64 s.h.rs, .int .i64 s.h.reg, .slice A5 n5 c5] 27))) := below_made (HB3.out.trans (hb5.mono HB3.out.size)) (Nat.le_refl _) _
      have HN5 : Hid ((w5.alloc (.cells #[.int .i64 s.gen, .int .i64 s.phase, .int .i64 s.mig, .int .i64 s.tail, .int .i64 s.now, .int .i64 s.t.id, .int .i64 s.t.ver, .int .i64 s.t.rs, .int .i64 s.t.reg, .int .i64 s.h.id, .int .i64 s.h.ver, .int .i64 s.h.rs, .int .i64 s.h.reg, .slice A5 n5 c5] 27)).heap[w5.heap.size]? = some (.cells #[.int .i64 s.gen, .int .i64 s.phase, .int .i64 s.mig, .int .i64 s.tail, .int .i64 s.now, .int .i64 s.t.id, .int .i64 s.t.ver, .int .i64 s.t.rs, .int .i64 s.t.reg, .int .i64 s.h.id, .int .i64 s.h.ver, .int .i64 s.h.rs, .int .i64 s.h.reg, .slice A5 n5 c5] 27 (0, 0))) := heap_alloc_new _ _
      have HM5 : Hid ((w5.alloc (.cells #[.int .i64 s.gen, .int .i64 s.phase, .int .i64 s.mig, .int .i64 s.tail, .int .i64 s.now, .int .i64 s.t.id, .int .i64 s.t.ver, .int .i64 s.t.rs, .int .i64 s.t.reg, .int .i64 s.h.id, .int .i64 s.h.ver, .int .i64 s.h.rs, .int .i64 s.h.reg, .slice A5 n5 c5] 27)).heap[w3.heap.size]? = some (.cells #[.int .i64 s.gen, .int .i64 s.phase, .int .i64 s.mig, .int .i64 s.tail, .int .i64 s.now, .int .i64 s.t.id, .int .i64 s.t.ver, .int .i64 s.t.rs, .int .i64 s.t.reg, .int .i64 s.h.id, .int .i64 s.h.ver, .int .i64 s.h.rs, .int .i64 s.h.reg, .slice A3 n3 c3] 27 (0, 0))) := box_on (box_on HN3.out hb5) (below_new _ _)
      have HA5 : Hid (SbAt (w5.alloc (.cells #[.int .i64 s.gen, .int .i64 s.phase, .int .i64 s.mig, .int .i64 s.tail, .int .i64 s.now, .int .i64 s.t.id, .int .i64 s.t.ver, .int .i64 s.t.rs, .int .i64 s.t.reg, .int .i64 s.h.id, .int .i64 s.h.ver, .int .i64 s.h.rs, .int .i64 s.h.reg, .slice A5 n5 c5] 27)) (w5.alloc (.cells #[.int .i64 s.gen, .int .i64 s.phase, .int .i64 s.mig, .int .i64 s.tail, .int .i64 s.now, .int .i64 s.t.id, .int .i64 s.t.ver, .int .i64 s.t.rs, .int .i64 s.t.reg, .int .i64 s.h.id, .int .i64 s.h.ver, .int .i64 s.h.rs, .int .i64 s.h.reg, .slice A5 n5 c5] 27)).heap.size s A5 n5 c5) := hat5.on (below_new _ _)
      have HC5 : Hid (SbAt (w5.alloc (.cells #[.int .i64 s.gen, .int .i64 s.phase, .int .i64 s.mig, .int .i64 s.tail, .int .i64 s.now, .int .i64 s.t.id, .int .i64 s.t.ver, .int .i64 s.t.rs, .int .i64 s.t.reg, .int .i64 s.h.id, .int .i64 s.h.ver, .int .i64 s.h.rs, .int .i64 s.h.reg, .slice A5 n5 c5] 27)) (w5.alloc (.cells #[.int .i64 s.gen, .int .i64 s.phase, .int .i64 s.mig, .int .i64 s.tail, .int .i64 s.now, .int .i64 s.t.id, .int .i64 s.t.ver, .int .i64 s.t.rs, .int .i64 s.t.reg, .int .i64 s.h.id, .int .i64 s.h.ver, .int .i64 s.h.rs, .int .i64 s.h.reg, .slice A5 n5 c5] 27)).heap.size s A3 n3 c3) := (HA3.out.on hb5).on (below_new _ _)
      clear hat5 hb5 HN3 HA3
      go_upto_region 7 with fail
      generalize w5.alloc (.cells #[.int .i64 s.gen, .int .i64 s.phase, .int .i64 s.mig, .int .i64 s.tail, .int .i64 s.now, .int .i64 s.t.id, .int .i64 s.t.ver, .int .i64 s.t.rs, .int .i64 s.t.reg, .int .i64 s.h.id, .int .i64 s.h.ver, .int .i64 s.h.rs, .int .i64 s.h.reg, .slice A5 n5 c5] 27) = w6 at *
      go_wp2_with (first
        | (go_at_call 10; revert HC7; intro HC7; refine (HEQ.out s HSH.out A3 A5 n3 c3 n5 c5 w7 HC7.out.1 HC7.out.2).mono ?_; rintro r w8 ⟨rfl, hb8⟩; have HB8 : Hid (Below w.heap.size w w8) := HB7.out.trans (hb8.mono HB7.out.size); clear hb8)
        | (go_at_call 15; refine (AW.out _ HB5.out).mono ?_; rintro r w7 ⟨rfl, hb7⟩; have HB7 : Hid (Below w.heap.size w w7) := HB5.out.trans (hb7.mono HB5.out.size); have HC7 := Lib.hid (And.intro (HC5.out.on hb7) (HA5.out.on hb7)); have HX7 : Hid (w7.heap[w3.heap.size]? = some _) := box_on HM5.out hb7; have HY7 : Hid (w7.heap[w5.heap.size]? = some _) := box_on HN5.out hb7; clear hb7; obtain ⟨x0, x1, x2, x3, x4, x5, x6, x7, x8, x9, x10, x11, x12, x13⟩ := cells14 HX7.out; obtain ⟨y0, y1, y2, y3, y4, y5, y6, y7, y8, y9, y10, y11, y12, y13⟩ := cells14 HY7.out))
      go_ret
      exact ⟨ret_bool (by simp), HB8.out⟩
end Go.Proofs.YtcjnhemlkahgoaaDoor
