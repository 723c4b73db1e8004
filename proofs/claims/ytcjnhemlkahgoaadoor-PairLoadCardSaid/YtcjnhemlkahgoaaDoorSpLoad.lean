/-
  The walk of package superpair's Load.
-/
import Derived.Test.YtcjnhemlkahgoaaDoorSpWords
import Derived.Test.YtcjnhemlkahgoaaDoorSpPublish
set_option maxRecDepth 100000
namespace Go.Proofs.YtcjnhemlkahgoaaDoor
open Go.RowKit
theorem load_nil (w : World) : Calls Tryd.prog 14 #[.pointer none] w (NoSb w) := by
  have HR := Lib.hid (fun W => read_nil 0 W)
  unfold ReadNo at HR
  unfold NoSb
  have HD0 := Lib.hid (sd2_new w #[.int .i64 0, .int .i64 0, .int .i64 0, .int .i64 0, .int .i64 0, .int .i64 0, .int .i64 0, .int .i64 0, .int .i64 0, .int .i64 0, .int .i64 0, .int .i64 0, .int .i64 0, .slice none 0 0] #[.int .i64 0, .int .i64 0, .int .i64 0, .int .i64 0, .int .i64 0, .int .i64 0, .int .i64 0, .int .i64 0, .int .i64 0, .int .i64 0, .int .i64 0, .int .i64 0, .int .i64 0, .slice none 0 0] 27 27)
  go_enter Tryd.func14, Tryd.ntmps14
  go_upto_region 2 with fail
  generalize (w.alloc (.cells #[.int .i64 0, .int .i64 0, .int .i64 0, .int .i64 0, .int .i64 0, .int .i64 0, .int .i64 0, .int .i64 0, .int .i64 0, .int .i64 0, .int .i64 0, .int .i64 0, .int .i64 0, .slice none 0 0] 27)).alloc (.cells #[.int .i64 0, .int .i64 0, .int .i64 0, .int .i64 0, .int .i64 0, .int .i64 0, .int .i64 0, .int .i64 0, .int .i64 0, .int .i64 0, .int .i64 0, .int .i64 0, .int .i64 0, .slice none 0 0] 27) = w0 at *
  go_wp2_with fail
  go_loopw [11] (fun iv wr => iv = .int .i64 0 ∧ wr = w0) (fun i _ => 2 - (intOf i).toNat)
  case atStart => exact ⟨rfl, rfl⟩
  case round =>
    obtain ⟨rfl, rfl⟩ := hrel
    go_wp2_with fail
    refine (HR.out _).mono ?_
    rintro r w1 ⟨rfl, rfl⟩
    obtain ⟨x0, x1, x2, x3, x4, x5, x6, x7, x8, x9, x10, x11, x12, x13⟩ := cells14 HD0.out.1
    obtain ⟨fz0, fz1, fz2, fz3, fz4, fz5, fz6, fz7, fz8, fz9, fz10, fz11, fz12, fz13⟩ := frozen14 HD0.out.1
    go_wp2_with fail
    (try simp only [Exit.inBlock, Exit.then])
    refine bodyPost_ret (results_row2 rfl _ _ w.heap.size _ _ (0, 0) _ rfl (stored14 HD0.out.1) Tryd.underlying27 rfl (by kernel_rfl)) rfl ?_
    exact ⟨rfl, HD0.out.2.2.trans (below_of_grown (stored14_grown _ w.heap.size (.int .i64 0) (.int .i64 0) (.int .i64 0) (.int .i64 0) (.int .i64 0) (.int .i64 0) (.int .i64 0) (.int .i64 0) (.int .i64 0) (.int .i64 0) (.int .i64 0) (.int .i64 0) (.int .i64 0) (.slice none 0 0)) (Nat.le_refl _) HD0.out.2.2.size)⟩
set_option maxHeartbeats 8000000 in
theorem spload_any (g cb m nn : Nat) (fs : Flash) (w : World) (hn : 2 ≤ nn) (hdead : Hid (fs.dead = false)) (ht : Hid (TabW w)) (hz : 0 < w.heap.size) (hd : Hid (Dev w g cb m nn fs)) :
    Calls Tryd.prog 14 #[.pointer (some ⟨g, 0, none⟩)] w (LoadIs (Sp.newest (sec fs.cur 0) (sec fs.cur 1)) w) := by
  have HR : Hid (∀ W (k : Nat), k < 2 → Below w.heap.size w W → Calls Tryd.prog 43 #[.pointer (some ⟨g, 0, none⟩), .int .i64 (k : Int)] W (ReadOk W (sec fs.cur k))) := fun W k hk hW =>
    read_ok k (k : Int) rfl (by omega) (Lib.hid (hd.out.below hW hd.out.lt.1 hd.out.lt.2.1 hd.out.lt.2.2)) hdead
  have HDE : Hid (∀ W (k gr cap : Nat), Below w.heap.size w W → (sec fs.cur k).length = 64 → Bs W W.heap.size (some ⟨gr, 0, none⟩) (sec fs.cur k) → 64 ≤ cap → cap ≤ maxLen → Calls Tryd.prog 8 #[.slice (some ⟨gr, 0, none⟩) 64 cap, .int .i64 (k : Int)] W (DecSb W (k : Int) (sec fs.cur k))) := fun W k gr cap hW h64 hbs h1 h2 =>
    sbdecode_any (k : Int) _ W.heap.size 64 cap _ W (Nat.le_refl _) ⟨(fun e => by cases e), h1, by unfold maxLen at h2; exact h2⟩ h64 hbs (ht.out.below hW hz) (Nat.lt_of_lt_of_le hz hW.size)
  have HU : Hid (∀ k : Nat, k < 2 → Sp.upto (sec fs.cur 0) (sec fs.cur 1) (k + 1) = Sp.over (Sp.upto (sec fs.cur 0) (sec fs.cur 1) k) (Sp.cand (k : Int) (sec fs.cur k))) := fun k hk => by
    have : k = 0 ∨ k = 1 := by omega
    rcases this with rfl | rfl
    · exact Sp.upto_one _ _
    · exact Sp.upto_two _ _
  have HF : Hid (Sp.upto (sec fs.cur 0) (sec fs.cur 1) 2 = Sp.newest (sec fs.cur 0) (sec fs.cur 1)) := rfl
  have HG : Hid (∀ s, Sp.newest (sec fs.cur 0) (sec fs.cur 1) = some s → 0 < s.gen) := fun s hs => by
    unfold Sp.newest at hs
    have h1 := fun s => Sp.cand_of (x := 0) (l := sec fs.cur 0) (s := s)
    have h2 := fun s => Sp.cand_of (x := 1) (l := sec fs.cur 1) (s := s)
    generalize Sp.cand 0 (sec fs.cur 0) = c0 at *
    generalize Sp.cand 1 (sec fs.cur 1) = c1 at *
    have : c0 = some s ∨ c1 = some s := by
      cases c1 with
      | none => cases c0 with
        | none => cases hs
        | some b => exact .inl hs
      | some b => cases c0 with
        | none => exact .inr hs
        | some a =>
          by_cases hlt : a.gen < b.gen
          · rw [Sp.over_newer hlt] at hs; exact .inr hs
          · rw [Sp.over_elder hlt] at hs; exact .inl hs
    rcases this with e | e
    · have := Sp.gen_pos (h1 s e).1; omega
    · have := Sp.gen_pos (h2 s e).1; omega
  have HU0 : Hid (Sp.upto (sec fs.cur 0) (sec fs.cur 1) 0 = none) := rfl
  generalize Sp.upto (sec fs.cur 0) (sec fs.cur 1) = up at *
  generalize Sp.newest (sec fs.cur 0) (sec fs.cur 1) = nw at *
  have HSO := Lib.hid (fun a0 a1 a2 a3 a4 t0 t1 t2 t3 h0 h1 h2 h3 A n c W => sectorof_any a0 a1 a2 a3 a4 t0 t1 t2 t3 h0 h1 h2 h3 A n c W)
  unfold ReadOk at HR
  unfold DecSb HasSb NoSb at HDE
  have HD0 := Lib.hid (sd2_new w #[.int .i64 0, .int .i64 0, .int .i64 0, .int .i64 0, .int .i64 0, .int .i64 0, .int .i64 0, .int .i64 0, .int .i64 0, .int .i64 0, .int .i64 0, .int .i64 0, .int .i64 0, .slice none 0 0] #[.int .i64 0, .int .i64 0, .int .i64 0, .int .i64 0, .int .i64 0, .int .i64 0, .int .i64 0, .int .i64 0, .int .i64 0, .int .i64 0, .int .i64 0, .int .i64 0, .int .i64 0, .slice none 0 0] 27 27)
  clear ht hd hdead
  go_enter Tryd.func14, Tryd.ntmps14
  go_upto_region 2 with fail
  generalize (w.alloc (.cells #[.int .i64 0, .int .i64 0, .int .i64 0, .int .i64 0, .int .i64 0, .int .i64 0, .int .i64 0, .int .i64 0, .int .i64 0, .int .i64 0, .int .i64 0, .int .i64 0, .int .i64 0, .slice none 0 0] 27)).alloc (.cells #[.int .i64 0, .int .i64 0, .int .i64 0, .int .i64 0, .int .i64 0, .int .i64 0, .int .i64 0, .int .i64 0, .int .i64 0, .int .i64 0, .int .i64 0, .int .i64 0, .int .i64 0, .slice none 0 0] 27) = w0 at *
  have HLA0 : Hid (LdAt w (up 0) w0) := ⟨⟨HD0.out.1, HD0.out.2.2⟩, none, 0, 0, by rw [HU0.out]; exact HD0.out.2.1, by rw [HU0.out]; exact SbAt.zero _, (fun ad e => by cases e), fun _ => ⟨rfl, rfl, rfl⟩⟩
  clear HD0
  go_wp2_with fail
  go_loopw [11] (fun iv wr => ∃ k : Nat, k ≤ 2 ∧ iv = .int .i64 (k : Int) ∧ Hid (LdAt w (up k) wr)) (fun i _ => 2 - (intOf i).toNat)
  case atStart => exact ⟨0, Nat.zero_le _, rfl, HLA0⟩
  case round =>
    obtain ⟨k, hk, rfl, hla⟩ := hrel
    obtain ⟨hs0, A, n, c, hbx⟩ := hla.out
    have HS0 := Lib.hid hs0
    have HX0 := Lib.hid hbx
    clear hla hs0 hbx
    by_cases hlt : k < 2
    · have HUK := Lib.hid (HU.out k hlt)
      have HFN : Hid (up (k + 1) = up (k + 1)) := rfl
      go_wp2_with fail
      refine (HR.out _ k hlt HS0.out.2).mono ?_
      rintro r w1 ⟨gr, cap, rfl, -, h64, hbs, hc1, hc2, hb1⟩
      have HS1 := Lib.hid (HS0.out.next hb1 (by rfl) (by rfl) (by rfl) (by rfl))
      have HX1 := Lib.hid (HX0.out.next hb1)
      have HC := Lib.hid (HDE.out _ k gr cap HS1.out.2 h64 hbs hc1 hc2)
      have HL1 : Hid (w.heap.size + 1 < w1.heap.size) := (Array.getElem?_eq_some_iff.1 HX1.out.1).1
      clear hbs hb1 HS0 HX0
      generalize sec fs.cur k = lk at *
      go_wp2_with fail
      refine HC.out.mono ?_
      rintro r w2 (⟨s, hgd, A2, n2, c2, rfl, ⟨hat2, hfr2⟩, hb2⟩ | ⟨hno, rfl, hb2⟩)
      · have HGD := Lib.hid hgd
        have HM := Lib.hid (tmod_pos (Sp.gen_pos hgd).1)
        have HS3 : Hid (Sd w w.heap.size _ (w2.alloc (.cells #[.int .i64 s.gen, .int .i64 s.phase, .int .i64 s.mig, .int .i64 s.tail, .int .i64 s.now, .int .i64 s.t.id, .int .i64 s.t.ver, .int .i64 s.t.rs, .int .i64 s.t.reg, .int .i64 s.h.id, .int .i64 s.h.ver, .int .i64 s.h.rs, .int .i64 s.h.reg, .slice A2 n2 c2] 27))) := Sd.boxed (HS1.out.next hb2 (by rfl) (by rfl) (by rfl) (by rfl)) _
        have HX3 : Hid (BoxIs _ _ _ _ _ _ (w2.alloc (.cells #[.int .i64 s.gen, .int .i64 s.phase, .int .i64 s.mig, .int .i64 s.tail, .int .i64 s.now, .int .i64 s.t.id, .int .i64 s.t.ver, .int .i64 s.t.rs, .int .i64 s.t.reg, .int .i64 s.h.id, .int .i64 s.h.ver, .int .i64 s.h.rs, .int .i64 s.h.reg, .slice A2 n2 c2] 27))) := (HX1.out.next hb2).next ((Below.refl _ w2).alloc (Nat.le_refl _) _)
        have HN3 : Hid ((w2.alloc (.cells #[.int .i64 s.gen, .int .i64 s.phase, .int .i64 s.mig, .int .i64 s.tail, .int .i64 s.now, .int .i64 s.t.id, .int .i64 s.t.ver, .int .i64 s.t.rs, .int .i64 s.t.reg, .int .i64 s.h.id, .int .i64 s.h.ver, .int .i64 s.h.rs, .int .i64 s.h.reg, .slice A2 n2 c2] 27)).heap[w2.heap.size]? = some (.cells #[.int .i64 s.gen, .int .i64 s.phase, .int .i64 s.mig, .int .i64 s.tail, .int .i64 s.now, .int .i64 s.t.id, .int .i64 s.t.ver, .int .i64 s.t.rs, .int .i64 s.t.reg, .int .i64 s.h.id, .int .i64 s.h.ver, .int .i64 s.h.rs, .int .i64 s.h.reg, .slice A2 n2 c2] 27 (0, 0))) := heap_alloc_new _ _
        have HA3 : Hid (SbAt (w2.alloc (.cells #[.int .i64 s.gen, .int .i64 s.phase, .int .i64 s.mig, .int .i64 s.tail, .int .i64 s.now, .int .i64 s.t.id, .int .i64 s.t.ver, .int .i64 s.t.rs, .int .i64 s.t.reg, .int .i64 s.h.id, .int .i64 s.h.ver, .int .i64 s.h.rs, .int .i64 s.h.reg, .slice A2 n2 c2] 27)) (w2.alloc (.cells #[.int .i64 s.gen, .int .i64 s.phase, .int .i64 s.mig, .int .i64 s.tail, .int .i64 s.now, .int .i64 s.t.id, .int .i64 s.t.ver, .int .i64 s.t.rs, .int .i64 s.t.reg, .int .i64 s.h.id, .int .i64 s.h.ver, .int .i64 s.h.rs, .int .i64 s.h.reg, .slice A2 n2 c2] 27)).heap.size s A2 n2 c2 ∧ ∀ ad, A2 = some ad → w.heap.size + 1 < ad.block) := ⟨hat2.next ((Below.refl _ w2).alloc (Nat.le_refl _) _), fun ad e => Nat.lt_of_lt_of_le HL1.out (hfr2 ad e)⟩
        clear hgd hat2 hfr2 hb2 HC
        go_upto_region 9 with fail
        generalize w2.alloc (.cells #[.int .i64 s.gen, .int .i64 s.phase, .int .i64 s.mig, .int .i64 s.tail, .int .i64 s.now, .int .i64 s.t.id, .int .i64 s.t.ver, .int .i64 s.t.rs, .int .i64 s.t.reg, .int .i64 s.h.id, .int .i64 s.h.ver, .int .i64 s.h.rs, .int .i64 s.h.reg, .slice A2 n2 c2] 27) = w3 at *
        have HTK : Hid (s.gen % 2 = (k : Int) → ((up k).getD Sb.S0).gen < s.gen → up (k + 1) = some s) := fun q1 q2 => HUK.out.trans (upto_take HGD.out q1 q2)
        have HNK : Hid ((s.gen % 2 ≠ (k : Int) ∨ ¬ ((up k).getD Sb.S0).gen < s.gen) → up (k + 1) = up k) := fun q => HUK.out.trans (q.elim (upto_other HGD.out) (upto_elder HGD.out))
        have HLX : Hid (up (k + 1) = up k → ∀ W, Below w3.heap.size w3 W → LdAt w (up (k + 1)) W) := fun e W hW => by
          rw [e]
          exact ⟨HS3.out.next hW (by rfl) (by rfl) (by rfl) (by rfl), A, n, c, HX3.out.next hW⟩
        unfold BoxIs at HX3
        have HX4 : Hid (w3.heap[w.heap.size + 1]? = some _) := HX3.out.1
        clear HX3 HX1 HUK HGD
        generalize (up k).getD Sb.S0 = b at *
        obtain ⟨x0, x1, x2, x3, x4, x5, x6, x7, x8, x9, x10, x11, x12, x13⟩ := cells14 HN3.out
        obtain ⟨y0, y1, y2, y3, y4, y5, y6, y7, y8, y9, y10, y11, y12, y13⟩ := cells14 HX4.out
        by_cases q1 : s.gen % 2 = (k : Int)
        · have e1 : (s.gen.tmod 2 == (k : Int)) = true := by rw [HM.out, beq_iff_eq]; exact q1
          by_cases q2 : b.gen < s.gen
          · have e2 : decide (b.gen < s.gen) = true := decide_eq_true q2
            have HE := Lib.hid (HTK.out q1 q2)
            clear HTK HNK HLX q1 q2
            go_upto_region 10 with (go_at_call 44; refine (HSO.out s.gen s.phase s.mig s.tail s.now s.t.id s.t.ver s.t.rs s.t.reg s.h.id s.h.ver s.h.rs s.h.reg A2 n2 c2 _).mono ?_; rintro r w5 ⟨rfl, hb5⟩; have HS5 := Lib.hid (HS3.out.next hb5 (by rfl) (by rfl) (by rfl) (by rfl)); have HX5 : Hid (w5.heap[w.heap.size + 1]? = some _) := (hb5.block _ (Array.getElem?_eq_some_iff.1 HX4.out).1).trans HX4.out; have HN5 : Hid (w5.heap[w2.heap.size]? = some _) := (hb5.block _ (Array.getElem?_eq_some_iff.1 HN3.out).1).trans HN3.out; have HA5 : Hid (SbAt w5 w5.heap.size s A2 n2 c2 ∧ _) := ⟨HA3.out.1.next hb5, HA3.out.2⟩; have HB5 := Lib.hid hb5; clear hb5 x0 x1 x2 x3 x4 x5 x6 x7 x8 x9 x10 x11 x12 x13 y0 y1 y2 y3 y4 y5 y6 y7 y8 y9 y10 y11 y12 y13; obtain ⟨x0, x1, x2, x3, x4, x5, x6, x7, x8, x9, x10, x11, x12, x13⟩ := cells14 HN5.out; obtain ⟨y0, y1, y2, y3, y4, y5, y6, y7, y8, y9, y10, y11, y12, y13⟩ := cells14 HX5.out)
            obtain ⟨fz0, fz1, fz2, fz3, fz4, fz5, fz6, fz7, fz8, fz9, fz10, fz11, fz12, fz13⟩ := frozen14 HX5.out
            go_wp2_with fail
            go_roundw
            case rel =>
              refine ⟨k + 1, by omega, by go_num, ?_⟩
              show LdAt w (up (k + 1)) _
              rw [HE.out]
              have h := box_stored HS5.out HX5.out (Nat.lt_succ_self _) HA5.out.1 HA5.out.2 _ rfl
              exact ⟨h.1, A2, n2, c2, h.2⟩
            case measure => simp [intOf]; omega
          · have e2 : decide (b.gen < s.gen) = false := decide_eq_false q2
            have HE := Lib.hid (HLX.out (HNK.out (.inr q2)))
            clear HTK HNK HLX q1 q2
            go_wp2_with (go_at_call 44; refine (HSO.out s.gen s.phase s.mig s.tail s.now s.t.id s.t.ver s.t.rs s.t.reg s.h.id s.h.ver s.h.rs s.h.reg A2 n2 c2 _).mono ?_; rintro r w5 ⟨rfl, hb5⟩; have HS5 := Lib.hid (HS3.out.next hb5 (by rfl) (by rfl) (by rfl) (by rfl)); have HX5 : Hid (w5.heap[w.heap.size + 1]? = some _) := (hb5.block _ (Array.getElem?_eq_some_iff.1 HX4.out).1).trans HX4.out; have HN5 : Hid (w5.heap[w2.heap.size]? = some _) := (hb5.block _ (Array.getElem?_eq_some_iff.1 HN3.out).1).trans HN3.out; have HA5 : Hid (SbAt w5 w5.heap.size s A2 n2 c2 ∧ _) := ⟨HA3.out.1.next hb5, HA3.out.2⟩; have HB5 := Lib.hid hb5; clear hb5 x0 x1 x2 x3 x4 x5 x6 x7 x8 x9 x10 x11 x12 x13 y0 y1 y2 y3 y4 y5 y6 y7 y8 y9 y10 y11 y12 y13; obtain ⟨x0, x1, x2, x3, x4, x5, x6, x7, x8, x9, x10, x11, x12, x13⟩ := cells14 HN5.out; obtain ⟨y0, y1, y2, y3, y4, y5, y6, y7, y8, y9, y10, y11, y12, y13⟩ := cells14 HX5.out)
            go_roundw
            case rel => exact ⟨k + 1, by omega, by go_num, HE.out _ HB5.out⟩
            case measure => simp [intOf]; omega
        · have e1 : (s.gen.tmod 2 == (k : Int)) = false := by rw [HM.out, beq_eq_false_iff_ne]; exact q1
          have HE := Lib.hid (HLX.out (HNK.out (.inl q1)))
          clear HTK HNK HLX q1
          go_wp2_with (go_at_call 44; refine (HSO.out s.gen s.phase s.mig s.tail s.now s.t.id s.t.ver s.t.rs s.t.reg s.h.id s.h.ver s.h.rs s.h.reg A2 n2 c2 _).mono ?_; rintro r w5 ⟨rfl, hb5⟩; have HS5 := Lib.hid (HS3.out.next hb5 (by rfl) (by rfl) (by rfl) (by rfl)); have HX5 : Hid (w5.heap[w.heap.size + 1]? = some _) := (hb5.block _ (Array.getElem?_eq_some_iff.1 HX4.out).1).trans HX4.out; have HN5 : Hid (w5.heap[w2.heap.size]? = some _) := (hb5.block _ (Array.getElem?_eq_some_iff.1 HN3.out).1).trans HN3.out; have HA5 : Hid (SbAt w5 w5.heap.size s A2 n2 c2 ∧ _) := ⟨HA3.out.1.next hb5, HA3.out.2⟩; have HB5 := Lib.hid hb5; clear hb5 x0 x1 x2 x3 x4 x5 x6 x7 x8 x9 x10 x11 x12 x13 y0 y1 y2 y3 y4 y5 y6 y7 y8 y9 y10 y11 y12 y13; obtain ⟨x0, x1, x2, x3, x4, x5, x6, x7, x8, x9, x10, x11, x12, x13⟩ := cells14 HN5.out; obtain ⟨y0, y1, y2, y3, y4, y5, y6, y7, y8, y9, y10, y11, y12, y13⟩ := cells14 HX5.out)
          go_roundw
          case rel => exact ⟨k + 1, by omega, by go_num, HE.out _ HB5.out⟩
          case measure => simp [intOf]; omega
      · have HE : Hid (LdAt w (up (k + 1)) (w2.alloc (.cells #[.int .i64 0, .int .i64 0, .int .i64 0, .int .i64 0, .int .i64 0, .int .i64 0, .int .i64 0, .int .i64 0, .int .i64 0, .int .i64 0, .int .i64 0, .int .i64 0, .int .i64 0, .slice none 0 0] 27))) := by
          show LdAt _ _ _
          rw [HUK.out, upto_no hno]
          exact ⟨Sd.boxed (HS1.out.next hb2 (by rfl) (by rfl) (by rfl) (by rfl)) _, A, n, c, (HX1.out.next hb2).next ((Below.refl _ w2).alloc (Nat.le_refl _) _)⟩
        clear hno hb2 HC HUK HX1 HS1
        go_upto_region 9 with fail
        generalize w2.alloc (.cells #[.int .i64 0, .int .i64 0, .int .i64 0, .int .i64 0, .int .i64 0, .int .i64 0, .int .i64 0, .int .i64 0, .int .i64 0, .int .i64 0, .int .i64 0, .int .i64 0, .int .i64 0, .slice none 0 0] 27) = w3 at *
        go_wp2_with fail
        go_roundw
        case rel => exact ⟨k + 1, by omega, by go_num, HE⟩
        case measure => simp [intOf]; omega
    · obtain rfl : k = 2 := by omega
      rw [HF.out] at HX0
      unfold BoxIs at HX0
      have HGN : Hid (∀ s, nw = some s → 0 < s.gen) := HG
      have HBB : Hid (∃ b, b = nw.getD Sb.S0) := ⟨_, rfl⟩
      obtain ⟨b, hbb⟩ := HBB.out
      rw [← hbb] at HX0
      have HBE := Lib.hid hbb
      clear hbb HBB
      obtain ⟨y0, y1, y2, y3, y4, y5, y6, y7, y8, y9, y10, y11, y12, y13⟩ := cells14 HX0.out.1
      obtain ⟨x0, x1, x2, x3, x4, x5, x6, x7, x8, x9, x10, x11, x12, x13⟩ := cells14 HS0.out.1
      obtain ⟨fz0, fz1, fz2, fz3, fz4, fz5, fz6, fz7, fz8, fz9, fz10, fz11, fz12, fz13⟩ := frozen14 HS0.out.1
      have HB0 := Lib.hid HX0.out
      clear HX0 HU HF HG HR HDE
      go_upto_region 12 with fail
      go_region
      all_goals
        (try go_wp2_with fail)
        (try simp only [Exit.inBlock, Exit.then])
        refine bodyPost_ret (results_row2 rfl _ _ w.heap.size _ _ (0, 0) _ rfl (drew_row (stored14 HS0.out.1)) Tryd.underlying27 rfl (by kernel_rfl)) rfl ?_
        have HGR := stored14_grown wr w.heap.size (.int .i64 b.gen) (.int .i64 b.phase) (.int .i64 b.mig) (.int .i64 b.tail) (.int .i64 b.now) (.int .i64 b.t.id) (.int .i64 b.t.ver) (.int .i64 b.t.rs) (.int .i64 b.t.reg) (.int .i64 b.h.id) (.int .i64 b.h.ver) (.int .i64 b.h.rs) (.int .i64 b.h.reg) (.slice A n c)
        cases nw with
        | none =>
          obtain ⟨rfl, rfl, rfl⟩ := HB0.out.2.2.2 rfl
          obtain rfl : b = Sb.S0 := HBE.out
          exact .inr ⟨rfl, rfl, (HS0.out.2.trans (below_of_grown HGR (Nat.le_refl _) HS0.out.2.size)).drew⟩
        | some s =>
          obtain rfl : b = s := HBE.out
          have hpos : decide (0 < b.gen) = true := decide_eq_true (HGN.out b rfl)
          rw [hpos]
          refine .inl ⟨b, rfl, A, n, c, rfl, ⟨SbAt.drawn1 (HB0.out.2.1.grown HGR (fun k hk ad e => by have := HB0.out.2.2.1 ad e; omega)).own, fun ad e => by have := HB0.out.2.2.1 ad e; omega⟩, (HS0.out.2.trans (below_of_grown HGR (Nat.le_refl _) HS0.out.2.size)).drew⟩
end Go.Proofs.YtcjnhemlkahgoaaDoor
