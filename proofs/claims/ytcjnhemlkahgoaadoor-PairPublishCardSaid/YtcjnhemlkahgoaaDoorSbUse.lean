/-
  SbRefDecAll: The walk of the reference's Decode of superblocks: the three ways together.
  SbAwake: The walks of layer 8's Awake and Short.
  SbGot: What both Decodes return, said alike: one superblock and one word for the same bytes; the reference's comparison of two superblocks.
  SbLawWords: Words for the laws on superblocks: two boxes that stay, the two calls of Short.
  SbRows: What came in, opened: a superblock by value, its foreign layouts at every index.
-/
import Derived.Test.YtcjnhemlkahgoaaDoorSbRefDecP
import Derived.Test.YtcjnhemlkahgoaaDoorSbRefDecQ
import Derived.Test.YtcjnhemlkahgoaaDoorSbRefDecR
import Derived.Test.YtcjnhemlkahgoaaDoorSbDecode
import Derived.Test.YtcjnhemlkahgoaaDoorSbOne
import Derived.Deep.RegionWith
import Derived.Test.YtcjnhemlkahgoaaDoorBase
import Derived.Deep.Slices
section
namespace Go.Proofs.YtcjnhemlkahgoaaDoor
open Go.RowKit
theorem refsbdec_any (x : Int) (A : Option Addr) (B n c : Nat) (l : List Nat) (w : World) (hB : B ≤ w.heap.size) (hs : SlIs A n c) (hl : Hid (l.length = n)) (hb : Hid (Bs w B A l)) (hn : n ≤ 140737488355328) :
    Calls Tryd.prog 9 #[.slice A n c, .int .i64 x] w (DecSb w x l) := by
  by_cases h0 : (Rc.sub l 1 59).getD 35 0 = 0
  · exact refsbdec_p x A B n c l w hB hs hl hb hn h0
  · by_cases h1 : (Rc.sub l 1 59).getD 35 0 = 1
    · exact refsbdec_q x A B n c l w hB hs hl hb hn h1
    · exact refsbdec_r x A B n c l w hB hs hl hb hn (show _ ≥ 2 by omega)
end Go.Proofs.YtcjnhemlkahgoaaDoor
end
section
namespace Go.Proofs.YtcjnhemlkahgoaaDoor
open Go.RowKit
/-- The superblock of the sanity check. -/
def Sb.one : Sb.S := ⟨1, 1, 0, 0, 0, ⟨1, 1, 4, 4⟩, ⟨0, 0, 0, 0⟩, []⟩
theorem one_valid : Sb.valid Sb.one := by decide
theorem one_parts : (Sb.enc 1 Sb.one).getD 0 0 = 3 := rfl
theorem one_good : Sb.good 1 (Sb.enc 1 Sb.one) Sb.one := ⟨by decide, one_valid, rfl⟩
theorem one_form : decide (Sb.form ⟨1, 1, 3, 4⟩) = false := by decide
theorem one_err : Sb.err Sb.one 1 = 0 := by decide
set_option maxHeartbeats 4000000 in
theorem sbawake_any (w : World) (ht : Hid (TabW w)) (hz : 0 < w.heap.size) : Calls Tryd.prog 11 #[] w fun r w' => r = .returned (.bool true) ∧ Below w.heap.size w w' := by
  have hsl : SlIs none 0 0 := sl_nil
  have HE : Hid (∀ W, Below w.heap.size w W → Calls Tryd.prog 31 #[.agg #[.int .i64 1, .int .i64 1, .int .i64 0, .int .i64 0, .int .i64 0, .int .i64 1, .int .i64 1, .int .i64 4, .int .i64 4, .int .i64 0, .int .i64 0, .int .i64 0, .int .i64 0, .slice none 0 0], .int .i64 1] W (FrEnc W (Sb.enc 1 Sb.one) 0)) := fun W hW => by
    have h := sbencode_any 1 1 0 0 0 1 1 4 4 0 0 0 0 1 none w.heap.size 0 0 [] W hW.size hsl rfl Ls.nil (ht.out.below hW hz) (Nat.lt_of_lt_of_le hz hW.size)
    have h2 : Calls Tryd.prog 31 #[.agg #[.int .i64 1, .int .i64 1, .int .i64 0, .int .i64 0, .int .i64 0, .int .i64 1, .int .i64 1, .int .i64 4, .int .i64 4, .int .i64 0, .int .i64 0, .int .i64 0, .int .i64 0, .slice none 0 0], .int .i64 1] W (FrEnc W (Sb.enc 1 Sb.one) (Sb.err Sb.one 1)) := h
    rwa [one_err] at h2
  have HLT : Hid (∀ y ∈ Sb.enc 1 Sb.one, y < 256) := Sb.enc_lt _ _
  have HLE : Hid ((Sb.enc 1 Sb.one).length = 64) := Sb.enc_length _ _
  have HD : Hid (∀ (W : World) (A : Option Addr) (c : Nat), Below w.heap.size w W → SlIs A 64 c → Bs W W.heap.size A (Sb.enc 1 Sb.one) → Calls Tryd.prog 8 #[.slice A 64 c, .int .i64 1] W fun r w' => ∃ A n c, r = .returned (.tuple #[.agg #[.int .i64 1, .int .i64 1, .int .i64 0, .int .i64 0, .int .i64 0, .int .i64 1, .int .i64 1, .int .i64 4, .int .i64 4, .int .i64 0, .int .i64 0, .int .i64 0, .int .i64 0, .slice A n c], .bool true]) ∧ Below W.heap.size W w') := fun W A c hW h1 h2 => by
    refine (sbdecode_any 1 A W.heap.size 64 c _ W (Nat.le_refl _) h1 HLE.out h2 (ht.out.below hW hz) (Nat.lt_of_lt_of_le hz hW.size)).mono fun r w' h => ?_
    rcases h with ⟨s, hs, A', n', c', e, _, hb⟩ | ⟨hn, _⟩
    · have e1 : s = Sb.one := (Sb.good_rd Sb.rl_reads Sb.counts hs).symm.trans (Sb.good_rd Sb.rl_reads Sb.counts one_good)
      subst e1
      exact ⟨A', n', c', e, hb⟩
    · exact absurd ⟨_, one_good⟩ hn
  have HV : Hid (∀ W, Calls Tryd.prog 36 #[.agg #[.int .i64 1, .int .i64 1, .int .i64 0, .int .i64 0, .int .i64 0, .int .i64 1, .int .i64 1, .int .i64 4, .int .i64 4, .int .i64 0, .int .i64 0, .int .i64 0, .int .i64 0, .slice none 0 0]] W fun r w' => r = .returned (.bool true) ∧ Below W.heap.size W w') := fun W => by
    have h := sbvalid_any 1 1 0 0 0 1 1 4 4 0 0 0 0 none W.heap.size 0 0 [] W (Nat.le_refl _) hsl rfl Ls.nil
    have h2 : Calls Tryd.prog 36 #[.agg #[.int .i64 1, .int .i64 1, .int .i64 0, .int .i64 0, .int .i64 0, .int .i64 1, .int .i64 1, .int .i64 4, .int .i64 4, .int .i64 0, .int .i64 0, .int .i64 0, .int .i64 0, .slice none 0 0]] W fun r w' => r = .returned (.bool (decide (Sb.valid Sb.one))) ∧ Below W.heap.size W w' := h
    rwa [decide_eq_true one_valid] at h2
  have HF : Hid (∀ W, Calls Tryd.prog 37 #[.agg #[.int .i64 1, .int .i64 1, .int .i64 3, .int .i64 4]] W fun r w' => r = .returned (.bool false) ∧ Below W.heap.size W w') := fun W => by
    have h := sbform_any 1 1 3 4 W
    rwa [one_form] at h
  have HPT := Lib.hid one_parts
  generalize Sb.enc 1 Sb.one = en at *
  unfold FrEnc at HE
  have hq := fun W : World => lay_eq W 1 1 4 4 1 1 4 4
  rw [Sb.sameL_self] at hq
  have HS0 := Lib.hid (sd_new w #[.int .i64 1, .int .i64 1, .int .i64 0, .int .i64 0, .int .i64 0, .int .i64 1, .int .i64 1, .int .i64 4, .int .i64 4, .int .i64 0, .int .i64 0, .int .i64 0, .int .i64 0, .slice none 0 0] 27)
  go_enter Tryd.func11, Tryd.ntmps11
  go_upto_region 2 with fail
  generalize w.alloc (.cells #[.int .i64 1, .int .i64 1, .int .i64 0, .int .i64 0, .int .i64 0, .int .i64 1, .int .i64 1, .int .i64 4, .int .i64 4, .int .i64 0, .int .i64 0, .int .i64 0, .int .i64 0, .slice none 0 0] 27) = w0 at *
  obtain ⟨x0, x1, x2, x3, x4, x5, x6, x7, x8, x9, x10, x11, x12, x13⟩ := cells14 HS0.out.1
  go_wp2_with fail
  refine (HE.out _ HS0.out.2).mono ?_
  rintro r w1 ⟨A1, n1, c1, rfl, -, h2, -, hb1⟩
  obtain ⟨rfl, hown⟩ := h2 trivial
  have HS1 := Lib.hid (HS0.out.next hb1 (by rfl) (by rfl) (by rfl) (by rfl))
  obtain ⟨A1', c1', e1, hbs, -, hn1, hm1, ho1⟩ := own_bytes hown HLT.out
  injection e1 with e1 _ e3
  subst e1 e3
  obtain ⟨g, rfl, hg1, hg2⟩ : ∃ g, A1 = some ⟨g, 0, none⟩ ∧ w0.heap.size ≤ g ∧ g < w1.heap.size := by
    rcases ho1 with ⟨_, h, _⟩ | ⟨g, h1, h2, h3⟩
    · omega
    · exact ⟨g, h1, h2, h3⟩
  have HB1 : Hid (SlIs (some (⟨g, 0, none⟩ : Addr)) 64 c1 ∧ Bs w1 w1.heap.size (some ⟨g, 0, none⟩) en) := ⟨⟨(fun e => by cases e), hn1, by unfold maxLen at hm1; exact hm1⟩, hbs⟩
  clear hb1 hown h2 hbs ho1 x0 x1 x2 x3 x4 x5 x6 x7 x8 x9 x10 x11 x12 x13
  go_wp2_with fail
  refine (HD.out _ _ _ HS1.out.2 HB1.out.1 HB1.out.2).mono ?_
  rintro r w2 ⟨A2, n2, c2, rfl, hb2⟩
  have HS2 : Hid (Sd w w.heap.size _ (w2.alloc (.cells #[.int .i64 1, .int .i64 1, .int .i64 0, .int .i64 0, .int .i64 0, .int .i64 1, .int .i64 1, .int .i64 4, .int .i64 4, .int .i64 0, .int .i64 0, .int .i64 0, .int .i64 0, .slice A2 n2 c2] 27))) := HS1.out.next (hb2.alloc hb2.size _) (by rfl) (by rfl) (by rfl) (by rfl)
  have HB2 : Hid (Bs (w2.alloc (.cells #[.int .i64 1, .int .i64 1, .int .i64 0, .int .i64 0, .int .i64 0, .int .i64 1, .int .i64 1, .int .i64 4, .int .i64 4, .int .i64 0, .int .i64 0, .int .i64 0, .int .i64 0, .slice A2 n2 c2] 27)) w1.heap.size (some ⟨g, 0, none⟩) en) := HB1.out.2.below (hb2.alloc hb2.size _) (Nat.le_refl _)
  have HN2 : Hid ((w2.alloc (.cells #[.int .i64 1, .int .i64 1, .int .i64 0, .int .i64 0, .int .i64 0, .int .i64 1, .int .i64 1, .int .i64 4, .int .i64 4, .int .i64 0, .int .i64 0, .int .i64 0, .int .i64 0, .slice A2 n2 c2] 27)).heap[w2.heap.size]? = some (.cells #[.int .i64 1, .int .i64 1, .int .i64 0, .int .i64 0, .int .i64 0, .int .i64 1, .int .i64 1, .int .i64 4, .int .i64 4, .int .i64 0, .int .i64 0, .int .i64 0, .int .i64 0, .slice A2 n2 c2] 27 (0, 0))) := heap_alloc_new _ _
  clear hb2
  go_upto_region 4 with fail
  generalize w2.alloc (.cells #[.int .i64 1, .int .i64 1, .int .i64 0, .int .i64 0, .int .i64 0, .int .i64 1, .int .i64 1, .int .i64 4, .int .i64 4, .int .i64 0, .int .i64 0, .int .i64 0, .int .i64 0, .slice A2 n2 c2] 27) = w3 at *
  obtain ⟨x0, x1, x2, x3, x4, x5, x6, x7, x8, x9, x10, x11, x12, x13⟩ := cells14 HS2.out.1
  obtain ⟨y0, y1, y2, y3, y4, y5, y6, y7, y8, y9, y10, y11, y12, y13⟩ := cells14 HN2.out
  have c0 : w3.cell? ⟨g, 0, none⟩ = some (.int .u8 3) := by
    obtain ⟨_, ad', e, h1, h3⟩ := HB2.out 0 (by rw [HLE.out]; decide)
    injection e with e
    subst e
    rw [HPT.out] at h3
    exact h3
  have i0 : (0 : Int) < (c1 : Int) := by have := HB1.out.1.2.1; omega
  go_wp2_with (first
    | (go_at_call 36; refine (HV.out _).mono ?_; rintro r w4 ⟨rfl, hb4⟩; have HS4 := Lib.hid (HS2.out.next hb4 (by rfl) (by rfl) (by rfl) (by rfl)); clear hb4)
    | (go_at_call 37; refine (HF.out _).mono ?_; rintro r w5 ⟨rfl, hb5⟩; have HS5 := Lib.hid (HS4.out.next hb5 (by rfl) (by rfl) (by rfl) (by rfl)); clear hb5))
  go_ret
  exact ⟨rfl, HS5.out.2⟩
set_option maxHeartbeats 2000000 in
theorem sbshort_any (a0 a1 a2 a3 a4 t0 t1 t2 t3 h0 h1 h2 h3 : Int) (A : Option Addr) (n c m : Nat) (hs : SlIs A n c) (hm : MinIs n 4 m) (w : World) :
    Calls Tryd.prog 17 #[.agg #[.int .i64 a0, .int .i64 a1, .int .i64 a2, .int .i64 a3, .int .i64 a4, .int .i64 t0, .int .i64 t1, .int .i64 t2, .int .i64 t3, .int .i64 h0, .int .i64 h1, .int .i64 h2, .int .i64 h3, .slice A n c]] w fun r w' => r = .returned (.agg #[.int .i64 a0, .int .i64 a1, .int .i64 a2, .int .i64 a3, .int .i64 a4, .int .i64 t0, .int .i64 t1, .int .i64 t2, .int .i64 t3, .int .i64 h0, .int .i64 h1, .int .i64 h2, .int .i64 h3, .slice A m c]) ∧ Below w.heap.size w w' := by
  have hnc := hs.2.1
  have hc63 := hs.2.2
  have HNIL := Lib.hid hs.1
  have HD0 := Lib.hid (sd2_new w #[.int .i64 a0, .int .i64 a1, .int .i64 a2, .int .i64 a3, .int .i64 a4, .int .i64 t0, .int .i64 t1, .int .i64 t2, .int .i64 t3, .int .i64 h0, .int .i64 h1, .int .i64 h2, .int .i64 h3, .slice A n c] #[.int .i64 0, .int .i64 0, .int .i64 0, .int .i64 0, .int .i64 0, .int .i64 0, .int .i64 0, .int .i64 0, .int .i64 0, .int .i64 0, .int .i64 0, .int .i64 0, .int .i64 0, .slice none 0 0] 27 27)
  clear hs
  go_enter Tryd.func17, Tryd.ntmps17
  go_upto_region 1 with fail
  generalize (w.alloc (.cells #[.int .i64 a0, .int .i64 a1, .int .i64 a2, .int .i64 a3, .int .i64 a4, .int .i64 t0, .int .i64 t1, .int .i64 t2, .int .i64 t3, .int .i64 h0, .int .i64 h1, .int .i64 h2, .int .i64 h3, .slice A n c] 27)).alloc (.cells #[.int .i64 0, .int .i64 0, .int .i64 0, .int .i64 0, .int .i64 0, .int .i64 0, .int .i64 0, .int .i64 0, .int .i64 0, .int .i64 0, .int .i64 0, .int .i64 0, .int .i64 0, .slice none 0 0] 27) = w0 at *
  obtain ⟨x0, x1, x2, x3, x4, x5, x6, x7, x8, x9, x10, x11, x12, x13⟩ := cells14 HD0.out.1
  have fz := frozen_at HD0.out.1 13
  have HX : Hid ((w0.setCell ⟨w.heap.size, 13, none⟩ (.slice A m c)).heap[w.heap.size]? = some (.cells #[.int .i64 a0, .int .i64 a1, .int .i64 a2, .int .i64 a3, .int .i64 a4, .int .i64 t0, .int .i64 t1, .int .i64 t2, .int .i64 t3, .int .i64 h0, .int .i64 h1, .int .i64 h2, .int .i64 h3, .slice A m c] 27 (0, 0)) ∧ (w0.setCell ⟨w.heap.size, 13, none⟩ (.slice A m c)).heap[w.heap.size + 1]? = some (.cells #[.int .i64 0, .int .i64 0, .int .i64 0, .int .i64 0, .int .i64 0, .int .i64 0, .int .i64 0, .int .i64 0, .int .i64 0, .int .i64 0, .int .i64 0, .int .i64 0, .int .i64 0, .slice none 0 0] 27 (0, 0)) ∧ Below w.heap.size w (w0.setCell ⟨w.heap.size, 13, none⟩ (.slice A m c))) := by
    refine ⟨?_, ?_, ?_⟩
    · have h := HD0.out.1
      simp [World.setCell, Array.getElem?_modify, h]
    · exact ((grown_set _ w.heap.size 13 _).block _ (Array.getElem?_eq_some_iff.1 HD0.out.2.1).1 (fun e => by injection e with e; omega)).trans HD0.out.2.1
    · exact HD0.out.2.2.trans (below_of_grown (grown_set _ _ _ _) (Nat.le_refl _) HD0.out.2.2.size)
  go_cut [8] (fun s wx => wx = w0.setCell ⟨w.heap.size, 13, none⟩ (.slice A m c))
  case first =>
    unfold MinIs at hm
    rcases hm with ⟨i0, rfl⟩ | ⟨i0, rfl⟩
    all_goals
      go_wp2_with fail
      go_meet
      exact rfl
  case rest =>
    subst hcut
    clear x0 x1 x2 x3 x4 x5 x6 x7 x8 x9 x10 x11 x12 x13 fz HD0
    generalize w0.setCell ⟨w.heap.size, 13, none⟩ (.slice A m c) = w1 at *
    obtain ⟨x0, x1, x2, x3, x4, x5, x6, x7, x8, x9, x10, x11, x12, x13⟩ := cells14 HX.out.1
    obtain ⟨y0, y1, y2, y3, y4, y5, y6, y7, y8, y9, y10, y11, y12, y13⟩ := cells14 HX.out.2.1
    obtain ⟨fz0, fz1, fz2, fz3, fz4, fz5, fz6, fz7, fz8, fz9, fz10, fz11, fz12, fz13⟩ := frozen14 HX.out.2.1
    go_wp2_with fail
    (try simp only [Exit.inBlock, Exit.then])
    refine bodyPost_ret (results_cell_row rfl _ _ (w.heap.size + 1) _ _ (0, 0) _ rfl (stored14 HX.out.2.1) Tryd.underlying27 rfl (by kernel_rfl)) rfl ?_
    exact ⟨rfl, HX.out.2.2.trans (below_of_grown (stored14_grown w1 (w.heap.size + 1) (.int .i64 a0) (.int .i64 a1) (.int .i64 a2) (.int .i64 a3) (.int .i64 a4) (.int .i64 t0) (.int .i64 t1) (.int .i64 t2) (.int .i64 t3) (.int .i64 h0) (.int .i64 h1) (.int .i64 h2) (.int .i64 h3) (.slice A m c)) (Nat.le_succ _) HX.out.2.2.size)⟩
theorem ls_take {w : World} {B n m : Nat} {A : Option Addr} {l : List Sb.L} (hl : l.length = n) (hm : MinIs n 4 m) (hb : Ls w B A l) : (l.take m).length = m ∧ Ls w B A (l.take m) := by
  have hmn := min_le hm
  have e : (l.take m).length = m := by rw [List.length_take]; omega
  refine ⟨e, fun k hk => ?_⟩
  rw [e] at hk
  have e2 : (l.take m).getD k Sb.L0 = l.getD k Sb.L0 := by
    rw [List.getD_eq_getElem?_getD, List.getD_eq_getElem?_getD, List.getElem?_take_of_lt hk]
  rw [e2]
  exact hb k (by omega)
end Go.Proofs.YtcjnhemlkahgoaaDoor
end
section
namespace Go.Proofs.YtcjnhemlkahgoaaDoor
open Go.RowKit
/-- The superblock s and the word t are returned, the layouts in memory of their own. -/
def GotS (w : World) (s : Sb.S) (t : Bool) (r : Ending) (w' : World) : Prop := ∃ A n c, r = .returned (.tuple #[.agg #[.int .i64 s.gen, .int .i64 s.phase, .int .i64 s.mig, .int .i64 s.tail, .int .i64 s.now, .int .i64 s.t.id, .int .i64 s.t.ver, .int .i64 s.t.rs, .int .i64 s.t.reg, .int .i64 s.h.id, .int .i64 s.h.ver, .int .i64 s.h.rs, .int .i64 s.h.reg, .slice A n c], .bool t]) ∧ (SbAt w' w'.heap.size s A n c ∧ ∀ ad, A = some ad → w.heap.size ≤ ad.block) ∧ Below w.heap.size w w'
theorem gots_has {w : World} {s : Sb.S} {r : Ending} {w' : World} (h : HasSb w s r w') : GotS w s true r w' := h
theorem gots_no {w : World} {r : Ending} {w' : World} (h : NoSb w r w') : GotS w Sb.S0 false r w' := ⟨none, 0, 0, h.1, ⟨⟨sl_nil, rfl, Ls.nil⟩, fun ad e => by cases e⟩, h.2⟩
theorem same_good {x : Int} {l : List Nat} {s t : Sb.S} (h : Sb.good x l s) (k : Sb.good x l t) : s = t := (Sb.good_rd Sb.rl_reads Sb.counts h).symm.trans (Sb.good_rd Sb.rl_reads Sb.counts k)
theorem valid_short {s : Sb.S} (h : Sb.valid s) : s.f.length ≤ 2 := by
  rcases Sb.valid_f h with ⟨e, -⟩ | ⟨e, -⟩ | ⟨g, e, -⟩ <;> rw [e] <;> simp
/-- What these bytes decode to, in one word for all who decode. -/
theorem dec_one (x : Int) (l : List Nat) : ∃ (s : Sb.S) (t : Bool), s.f.length ≤ 2 ∧ ∀ w r w', DecSb w x l r w' → GotS w s t r w' := by
  by_cases hg : ∃ s, Sb.good x l s
  · obtain ⟨s, hs⟩ := hg
    refine ⟨s, true, valid_short hs.2.1, fun w r w' h => ?_⟩
    rcases h with ⟨s', hs', h⟩ | ⟨hn, -⟩
    · rw [same_good hs hs']; exact gots_has h
    · exact absurd ⟨s, hs⟩ hn
  · refine ⟨Sb.S0, false, Nat.zero_le _, fun w r w' h => ?_⟩
    rcases h with ⟨s', hs', -⟩ | ⟨-, h⟩
    · exact absurd ⟨s', hs'⟩ hg
    · exact gots_no h
theorem SbAt.on {w w' : World} {s : Sb.S} {A : Option Addr} {n c : Nat} (h : SbAt w w.heap.size s A n c) (hb : Below w.heap.size w w') : SbAt w' w'.heap.size s A n c := (h.below hb (Nat.le_refl _)).own
theorem box_lt {w : World} {g : Nat} {o : Obj} (h : w.heap[g]? = some o) : g < w.heap.size := (Array.getElem?_eq_some_iff.1 h).1
theorem box_on {w w' : World} {g : Nat} {o : Obj} (h : w.heap[g]? = some o) (hb : Below w.heap.size w w') : w'.heap[g]? = some o := (hb.block _ (box_lt h)).trans h
theorem below_made {B : Nat} {w W : World} (h : Below B w W) (hB : B ≤ w.heap.size) (o : Obj) : Below B w (W.alloc o) := h.alloc (Nat.le_trans hB h.size) o
theorem below_new (w : World) (o : Obj) : Below w.heap.size w (w.alloc o) := (Below.refl _ w).alloc (Nat.le_refl _) o
/-- Bytes do not lie in a superblock's box. -/
theorem bs_box {w : World} {B g : Nat} {A : Option Addr} {l : List Nat} {i0 i1 i2 i3 i4 i5 i6 i7 i8 i9 i10 i11 i12 : Int} {D : Option Addr} {dn dc : Nat} (hb : Bs w B A l) (h : w.heap[g]? = some (.cells #[.int .i64 i0, .int .i64 i1, .int .i64 i2, .int .i64 i3, .int .i64 i4, .int .i64 i5, .int .i64 i6, .int .i64 i7, .int .i64 i8, .int .i64 i9, .int .i64 i10, .int .i64 i11, .int .i64 i12, .slice D dn dc] 27 (0, 0))) (hl : 0 < l.length) : ∀ ad, A = some ad → ad.block ≠ g := fun ad e => by
  subst e
  obtain ⟨h1, ad', e, h3, h4⟩ := hb 0 hl
  injection e with e
  subst e
  rintro rfl
  unfold World.cell? at h4
  rw [add_block, h] at h4
  dsimp only at h4
  split at h4
  · cases h4
  · generalize (ad.add 0).off = o at h4
    match o, h4 with
    | 0, h4 => cases h4
    | 1, h4 => cases h4
    | 2, h4 => cases h4
    | 3, h4 => cases h4
    | 4, h4 => cases h4
    | 5, h4 => cases h4
    | 6, h4 => cases h4
    | 7, h4 => cases h4
    | 8, h4 => cases h4
    | 9, h4 => cases h4
    | 10, h4 => cases h4
    | 11, h4 => cases h4
    | 12, h4 => cases h4
    | 13, h4 => cases h4
    | o + 14, h4 => simp at h4
theorem bs_grown {w w' : World} {B r : Nat} {A : Option Addr} {l : List Nat} (h : Bs w B A l) (hg : w.grownBy w' (some r)) (hr : ∀ ad, A = some ad → ad.block ≠ r) : Bs w' B A l := fun k hk => by
  obtain ⟨h1, ad, e, hB, h0⟩ := h k hk
  exact ⟨h1, ad, e, hB, hg.cell h0 (fun e' => by rw [add_block] at e'; injection e' with e'; exact hr ad e e')⟩
theorem refeq_sb (s t : Sb.S) (hs : s.f.length ≤ 4) (ht : t.f.length ≤ 4) (A A' : Option Addr) (n c n' c' : Nat) (W : World) (h : SbAt W W.heap.size s A n c) (h' : SbAt W W.heap.size t A' n' c') :
    Calls Tryd.prog 10 #[.agg #[.int .i64 s.gen, .int .i64 s.phase, .int .i64 s.mig, .int .i64 s.tail, .int .i64 s.now, .int .i64 s.t.id, .int .i64 s.t.ver, .int .i64 s.t.rs, .int .i64 s.t.reg, .int .i64 s.h.id, .int .i64 s.h.ver, .int .i64 s.h.rs, .int .i64 s.h.reg, .slice A n c], .agg #[.int .i64 t.gen, .int .i64 t.phase, .int .i64 t.mig, .int .i64 t.tail, .int .i64 t.now, .int .i64 t.t.id, .int .i64 t.t.ver, .int .i64 t.t.rs, .int .i64 t.t.reg, .int .i64 t.h.id, .int .i64 t.h.ver, .int .i64 t.h.rs, .int .i64 t.h.reg, .slice A' n' c']] W fun r w' => r = .returned (.bool (Sb.same s t)) ∧ Below W.heap.size W w' := by
  have e := h.2.1
  have e' := h'.2.1
  exact refsbeq_any s.gen s.phase s.mig s.tail s.now s.t.id s.t.ver s.t.rs s.t.reg s.h.id s.h.ver s.h.rs s.h.reg t.gen t.phase t.mig t.tail t.now t.t.id t.t.ver t.t.rs t.t.reg t.h.id t.h.ver t.h.rs t.h.reg A A' W.heap.size n n' c c' s.f t.f W (Nat.le_refl _) e e' (by omega) (by omega) h.2.2 h'.2.2
end Go.Proofs.YtcjnhemlkahgoaaDoor
end
section
namespace Go.Proofs.YtcjnhemlkahgoaaDoor
open Go.RowKit
/-- Two boxes as they are, and all that there was before. -/
def TwoIn (w : World) (o0 o1 : Obj) (g0 g1 : Nat) (W : World) : Prop := Sd w g0 o0 W ∧ Sd w g1 o1 W
theorem TwoIn.next {w W W' W'' : World} {o0 o1 : Obj} {g0 g1 : Nat} (h : TwoIn w o0 o1 g0 g1 W) (k : Below W'.heap.size W' W'') (e1 : W'.heap = W.heap) (e2 : W'.os = W.os) (e3 : W'.tape = W.tape) (e4 : W'.output = W.output) : TwoIn w o0 o1 g0 g1 W'' := ⟨h.1.next k e1 e2 e3 e4, h.2.next k e1 e2 e3 e4⟩
theorem TwoIn.below {w W : World} {o0 o1 : Obj} {g0 g1 : Nat} (h : TwoIn w o0 o1 g0 g1 W) : Below w.heap.size w W := h.1.2
theorem TwoIn.one {w W : World} {o0 o1 : Obj} {g0 g1 : Nat} (h : TwoIn w o0 o1 g0 g1 W) : W.heap[g0]? = some o0 := h.1.1
theorem TwoIn.two {w W : World} {o0 o1 : Obj} {g0 g1 : Nat} (h : TwoIn w o0 o1 g0 g1 W) : W.heap[g1]? = some o1 := h.2.1
theorem TwoIn.drew {w W : World} {o0 o1 : Obj} {g0 g1 : Nat} (h : TwoIn w o0 o1 g0 g1 W) : TwoIn w o0 o1 g0 g1 W.drew := ⟨⟨h.1.1, h.1.2.drew⟩, ⟨h.2.1, h.2.2.drew⟩⟩
theorem first_stored {w W : World} {o : Obj} {a0 a1 a2 a3 a4 a5 a6 a7 a8 a9 a10 a11 a12 a13 b0 b1 b2 b3 b4 b5 b6 b7 b8 b9 b10 b11 b12 b13 : Value} {t : TypeId} (h : Sd2 w (.cells #[a0, a1, a2, a3, a4, a5, a6, a7, a8, a9, a10, a11, a12, a13] t (0, 0)) o W) : Sd2 w (.cells #[b0, b1, b2, b3, b4, b5, b6, b7, b8, b9, b10, b11, b12, b13] t (0, 0)) o ((((((((((((((W.setCell ⟨w.heap.size, 0, none⟩ b0).setCell ⟨w.heap.size, 1, none⟩ b1).setCell ⟨w.heap.size, 2, none⟩ b2).setCell ⟨w.heap.size, 3, none⟩ b3).setCell ⟨w.heap.size, 4, none⟩ b4).setCell ⟨w.heap.size, 5, none⟩ b5).setCell ⟨w.heap.size, 6, none⟩ b6).setCell ⟨w.heap.size, 7, none⟩ b7).setCell ⟨w.heap.size, 8, none⟩ b8).setCell ⟨w.heap.size, 9, none⟩ b9).setCell ⟨w.heap.size, 10, none⟩ b10).setCell ⟨w.heap.size, 11, none⟩ b11).setCell ⟨w.heap.size, 12, none⟩ b12).setCell ⟨w.heap.size, 13, none⟩ b13) :=
  ⟨stored14 h.1, ((stored14_grown W w.heap.size b0 b1 b2 b3 b4 b5 b6 b7 b8 b9 b10 b11 b12 b13).block _ (Array.getElem?_eq_some_iff.1 h.2.1).1 (fun e => by injection e with e; omega)).trans h.2.1, h.2.2.trans (below_of_grown (stored14_grown W w.heap.size b0 b1 b2 b3 b4 b5 b6 b7 b8 b9 b10 b11 b12 b13) (Nat.le_refl _) h.2.2.size)⟩
theorem second_stored {w W : World} {o : Obj} {a0 a1 a2 a3 a4 a5 a6 a7 a8 a9 a10 a11 a12 a13 b0 b1 b2 b3 b4 b5 b6 b7 b8 b9 b10 b11 b12 b13 : Value} {t : TypeId} (h : Sd2 w o (.cells #[a0, a1, a2, a3, a4, a5, a6, a7, a8, a9, a10, a11, a12, a13] t (0, 0)) W) : Sd2 w o (.cells #[b0, b1, b2, b3, b4, b5, b6, b7, b8, b9, b10, b11, b12, b13] t (0, 0)) ((((((((((((((W.setCell ⟨w.heap.size + 1, 0, none⟩ b0).setCell ⟨w.heap.size + 1, 1, none⟩ b1).setCell ⟨w.heap.size + 1, 2, none⟩ b2).setCell ⟨w.heap.size + 1, 3, none⟩ b3).setCell ⟨w.heap.size + 1, 4, none⟩ b4).setCell ⟨w.heap.size + 1, 5, none⟩ b5).setCell ⟨w.heap.size + 1, 6, none⟩ b6).setCell ⟨w.heap.size + 1, 7, none⟩ b7).setCell ⟨w.heap.size + 1, 8, none⟩ b8).setCell ⟨w.heap.size + 1, 9, none⟩ b9).setCell ⟨w.heap.size + 1, 10, none⟩ b10).setCell ⟨w.heap.size + 1, 11, none⟩ b11).setCell ⟨w.heap.size + 1, 12, none⟩ b12).setCell ⟨w.heap.size + 1, 13, none⟩ b13) :=
  ⟨((stored14_grown W (w.heap.size + 1) b0 b1 b2 b3 b4 b5 b6 b7 b8 b9 b10 b11 b12 b13).block _ (Array.getElem?_eq_some_iff.1 h.1).1 (fun e => by injection e with e; omega)).trans h.1, stored14 h.2.1, h.2.2.trans (below_of_grown (stored14_grown W (w.heap.size + 1) b0 b1 b2 b3 b4 b5 b6 b7 b8 b9 b10 b11 b12 b13) (Nat.le_succ _) h.2.2.size)⟩
theorem two_stored {w W : World} {a0 a1 a2 a3 a4 a5 a6 a7 a8 a9 a10 a11 a12 a13 b0 b1 b2 b3 b4 b5 b6 b7 b8 b9 b10 b11 b12 b13 c0 c1 c2 c3 c4 c5 c6 c7 c8 c9 c10 c11 c12 c13 d0 d1 d2 d3 d4 d5 d6 d7 d8 d9 d10 d11 d12 d13 : Value} {t : TypeId} (h : Sd2 w (.cells #[a0, a1, a2, a3, a4, a5, a6, a7, a8, a9, a10, a11, a12, a13] t (0, 0)) (.cells #[c0, c1, c2, c3, c4, c5, c6, c7, c8, c9, c10, c11, c12, c13] t (0, 0)) W) : Sd2 w (.cells #[b0, b1, b2, b3, b4, b5, b6, b7, b8, b9, b10, b11, b12, b13] t (0, 0)) (.cells #[d0, d1, d2, d3, d4, d5, d6, d7, d8, d9, d10, d11, d12, d13] t (0, 0)) ((((((((((((((((((((((((((((W.setCell ⟨w.heap.size, 0, none⟩ b0).setCell ⟨w.heap.size, 1, none⟩ b1).setCell ⟨w.heap.size, 2, none⟩ b2).setCell ⟨w.heap.size, 3, none⟩ b3).setCell ⟨w.heap.size, 4, none⟩ b4).setCell ⟨w.heap.size, 5, none⟩ b5).setCell ⟨w.heap.size, 6, none⟩ b6).setCell ⟨w.heap.size, 7, none⟩ b7).setCell ⟨w.heap.size, 8, none⟩ b8).setCell ⟨w.heap.size, 9, none⟩ b9).setCell ⟨w.heap.size, 10, none⟩ b10).setCell ⟨w.heap.size, 11, none⟩ b11).setCell ⟨w.heap.size, 12, none⟩ b12).setCell ⟨w.heap.size, 13, none⟩ b13).setCell ⟨w.heap.size + 1, 0, none⟩ d0).setCell ⟨w.heap.size + 1, 1, none⟩ d1).setCell ⟨w.heap.size + 1, 2, none⟩ d2).setCell ⟨w.heap.size + 1, 3, none⟩ d3).setCell ⟨w.heap.size + 1, 4, none⟩ d4).setCell ⟨w.heap.size + 1, 5, none⟩ d5).setCell ⟨w.heap.size + 1, 6, none⟩ d6).setCell ⟨w.heap.size + 1, 7, none⟩ d7).setCell ⟨w.heap.size + 1, 8, none⟩ d8).setCell ⟨w.heap.size + 1, 9, none⟩ d9).setCell ⟨w.heap.size + 1, 10, none⟩ d10).setCell ⟨w.heap.size + 1, 11, none⟩ d11).setCell ⟨w.heap.size + 1, 12, none⟩ d12).setCell ⟨w.heap.size + 1, 13, none⟩ d13) :=
  second_stored (first_stored h)
end Go.Proofs.YtcjnhemlkahgoaaDoor
end
section
set_option maxRecDepth 100000
namespace Go.Proofs.YtcjnhemlkahgoaaDoor
open Go.ChangeShapes Go.WideShapes Go.ChangeAt Go.RowKit
section
variable {H : Type} {enc : TypeId × Value → H} {W : World}
theorem lay_cells {fuel : Nat} {a0 a1 a2 a3 : Value} {y : DataW H × List MemPlace} (h : DataW.trod enc Tryd.prog W 0 (fun _ => true) true fuel 24 [a0, a1, a2, a3] = some y) :
    ∃ a b c d : Int, a0 = .int .i64 a ∧ a1 = .int .i64 b ∧ a2 = .int .i64 c ∧ a3 = .int .i64 d := by
  obtain ⟨xs, fu, _, _, _, hxl, hf⟩ := DataW.trod_struct Tryd.underlying24 h
  have t0 : Tryd.prog.cellsOf 3 = 1 := by kernel_rfl
  have hxl4 : xs.length = 4 := hxl
  have h0 : DataW.trod enc Tryd.prog W 0 (fun _ => true) true fu 3 (([a0, a1, a2, a3].drop 0).take (Tryd.prog.cellsOf 3)) = xs[0]? := hf 0 _ rfl
  have h1 : DataW.trod enc Tryd.prog W 0 (fun _ => true) true fu 3 (([a0, a1, a2, a3].drop 1).take (Tryd.prog.cellsOf 3)) = xs[1]? := hf 1 _ rfl
  have h2 : DataW.trod enc Tryd.prog W 0 (fun _ => true) true fu 3 (([a0, a1, a2, a3].drop 2).take (Tryd.prog.cellsOf 3)) = xs[2]? := hf 2 _ rfl
  have h3 : DataW.trod enc Tryd.prog W 0 (fun _ => true) true fu 3 (([a0, a1, a2, a3].drop 3).take (Tryd.prog.cellsOf 3)) = xs[3]? := hf 3 _ rfl
  rw [t0, List.getElem?_eq_getElem (by omega)] at h0 h1 h2 h3
  obtain ⟨a, e0, _⟩ := DataW.trod_int Tryd.underlying3 h0
  obtain ⟨b, e1, _⟩ := DataW.trod_int Tryd.underlying3 h1
  obtain ⟨c, e2, _⟩ := DataW.trod_int Tryd.underlying3 h2
  obtain ⟨d, e3, _⟩ := DataW.trod_int Tryd.underlying3 h3
  exact ⟨a, b, c, d, by simpa using e0, by simpa using e1, by simpa using e2, by simpa using e3⟩
theorem pick_lt {n : Nat} {p : Nat → Sb.L → Prop} (h : ∀ i, i < n → ∃ q, p i q) : ∃ l : List Sb.L, l.length = n ∧ ∀ i, i < n → p i (l.getD i Sb.L0) := by
  induction n with
  | zero => exact ⟨[], rfl, fun i hi => absurd hi (by omega)⟩
  | succ n ih =>
    obtain ⟨l, hl, hp⟩ := ih fun i hi => h i (by omega)
    obtain ⟨q, hq⟩ := h n (by omega)
    refine ⟨l ++ [q], by simp [hl], fun i hi => ?_⟩
    rcases Nat.lt_or_ge i n with h2 | h2
    · rw [List.getD_eq_getElem?_getD, List.getElem?_append_left (by omega), ← List.getD_eq_getElem?_getD]
      exact hp i h2
    · obtain rfl : i = n := by omega
      rw [List.getD_eq_getElem?_getD, List.getElem?_append_right (by omega), hl, Nat.sub_self]
      exact hq
theorem lays_field {v : Value} {fuel : Nat} {x : DataW H × List MemPlace} (h : DataW.trod enc Tryd.prog W 0 (fun _ => true) true fuel 25 [v] = some x) : ∃ A n cap l, v = .slice A n cap ∧ SlIs A n cap ∧ l.length = n ∧ Ls W W.heap.size A l := by
  rcases Go.Deep.open_slice Tryd.underlying25 h with ⟨hcs, _⟩ | ⟨a, len, cap, m, nn, D, Pl, hcs, _, hl, hm, hmm, _, hx⟩
  · injection hcs with hcs
    exact ⟨none, 0, 0, [], hcs, ⟨fun _ => ⟨rfl, rfl⟩, Nat.le_refl _, by omega⟩, rfl, Ls.nil⟩
  · injection hcs with hcs
    have ce : Tryd.prog.cellsOf 24 = 4 := by kernel_rfl
    have each : ∀ i, i < len → ∃ q : Sb.L, W.cell? (a.add (i * 4)) = some (.int .i64 q.id) ∧ W.cell? (a.add (i * 4 + 1)) = some (.int .i64 q.ver) ∧ W.cell? (a.add (i * 4 + 2)) = some (.int .i64 q.rs) ∧ W.cell? (a.add (i * 4 + 3)) = some (.int .i64 q.reg) := by
      intro i hi
      obtain ⟨cs', h1, h2⟩ := hx i (by simp only [if_true] at hmm; omega)
      rw [ce] at h1
      obtain ⟨_, hlen, hcell⟩ := World.cells?_some h1
      match cs', hlen with
      | [v0, v1, v2, v3], _ =>
        obtain ⟨p, q, r, s, rfl, rfl, rfl, rfl⟩ := lay_cells h2
        have e0 := hcell 0 (by omega)
        have e1 := hcell 1 (by omega)
        have e2 := hcell 2 (by omega)
        have e3 := hcell 3 (by omega)
        rw [add_add] at e0 e1 e2 e3
        exact ⟨⟨p, q, r, s⟩, by simpa using e0, by simpa using e1, by simpa using e2, by simpa using e3⟩
    obtain ⟨l, hll, hp⟩ := pick_lt each
    refine ⟨some a, len, cap, l, hcs, ⟨(fun h => by cases h), hl, by unfold maxLen at hm; exact hm⟩, hll, fun k hk => ?_⟩
    obtain ⟨h0, h1, h2, h3⟩ := hp k (by omega)
    refine ⟨a, rfl, ?_, h0, h1, h2, h3⟩
    have := World.block_lt_of_cell? W _ h0
    rwa [add_block] at this
theorem super_in {base : Nat} {v : Value} {d : DataW H} {ps : List MemPlace} (hval : Value.okWide Tryd.prog W .any base 27 v) (hd : DataW.Trod enc Tryd.prog W 0 (fun _ => true) true 27 v d ps) :
    ∃ (a0 a1 a2 a3 a4 t0 t1 t2 t3 h0 h1 h2 h3 : Int) (A : Option Addr) (n c : Nat) (l : List Sb.L), Hid (SlIs A n c) ∧ Hid (l.length = n ∧ Ls W W.heap.size A l) ∧ v = .agg #[.int .i64 a0, .int .i64 a1, .int .i64 a2, .int .i64 a3, .int .i64 a4, .int .i64 t0, .int .i64 t1, .int .i64 t2, .int .i64 t3, .int .i64 h0, .int .i64 h1, .int .i64 h2, .int .i64 h3, .slice A n c] := by
  simp only [Value.okWide, Tryd.underlying27] at hval
  obtain ⟨cs, rfl, hsz, _⟩ := hval
  have hc : Tryd.prog.cellsOf 27 = 14 := by kernel_rfl
  have hlen : cs.toList.length = 14 := by rw [Array.length_toList, hsz, hc]
  obtain ⟨fuel, hf⟩ := hd
  have tI : Tryd.prog.cellsOf 3 = 1 := by kernel_rfl
  have tL : Tryd.prog.cellsOf 24 = 4 := by kernel_rfl
  have tS : Tryd.prog.cellsOf 25 = 1 := by kernel_rfl
  obtain ⟨l⟩ := cs
  match l, hlen with
  | [a0, a1, a2, a3, a4, a5, a6, a7, a8, a9, a10, a11, a12, a13], _ =>
    obtain ⟨xs, fu, _, _, _, hxl, hf⟩ := DataW.trod_struct Tryd.underlying27 hf
    have hxl8 : xs.length = 8 := hxl
    have g0 : DataW.trod enc Tryd.prog W 0 (fun _ => true) true fu 3 (([a0, a1, a2, a3, a4, a5, a6, a7, a8, a9, a10, a11, a12, a13].drop 0).take (Tryd.prog.cellsOf 3)) = xs[0]? := hf 0 _ rfl
    have g1 : DataW.trod enc Tryd.prog W 0 (fun _ => true) true fu 3 (([a0, a1, a2, a3, a4, a5, a6, a7, a8, a9, a10, a11, a12, a13].drop 1).take (Tryd.prog.cellsOf 3)) = xs[1]? := hf 1 _ rfl
    have g2 : DataW.trod enc Tryd.prog W 0 (fun _ => true) true fu 3 (([a0, a1, a2, a3, a4, a5, a6, a7, a8, a9, a10, a11, a12, a13].drop 2).take (Tryd.prog.cellsOf 3)) = xs[2]? := hf 2 _ rfl
    have g3 : DataW.trod enc Tryd.prog W 0 (fun _ => true) true fu 3 (([a0, a1, a2, a3, a4, a5, a6, a7, a8, a9, a10, a11, a12, a13].drop 3).take (Tryd.prog.cellsOf 3)) = xs[3]? := hf 3 _ rfl
    have g4 : DataW.trod enc Tryd.prog W 0 (fun _ => true) true fu 3 (([a0, a1, a2, a3, a4, a5, a6, a7, a8, a9, a10, a11, a12, a13].drop 4).take (Tryd.prog.cellsOf 3)) = xs[4]? := hf 4 _ rfl
    have g5 : DataW.trod enc Tryd.prog W 0 (fun _ => true) true fu 24 (([a0, a1, a2, a3, a4, a5, a6, a7, a8, a9, a10, a11, a12, a13].drop 5).take (Tryd.prog.cellsOf 24)) = xs[5]? := hf 5 _ rfl
    have g6 : DataW.trod enc Tryd.prog W 0 (fun _ => true) true fu 24 (([a0, a1, a2, a3, a4, a5, a6, a7, a8, a9, a10, a11, a12, a13].drop 9).take (Tryd.prog.cellsOf 24)) = xs[6]? := hf 6 _ rfl
    have g7 : DataW.trod enc Tryd.prog W 0 (fun _ => true) true fu 25 (([a0, a1, a2, a3, a4, a5, a6, a7, a8, a9, a10, a11, a12, a13].drop 13).take (Tryd.prog.cellsOf 25)) = xs[7]? := hf 7 _ rfl
    rw [tI, List.getElem?_eq_getElem (by omega)] at g0 g1 g2 g3 g4
    rw [tL, List.getElem?_eq_getElem (by omega)] at g5 g6
    rw [tS, List.getElem?_eq_getElem (by omega)] at g7
    obtain ⟨b0, e0, _⟩ := DataW.trod_int Tryd.underlying3 g0
    obtain ⟨b1, e1, _⟩ := DataW.trod_int Tryd.underlying3 g1
    obtain ⟨b2, e2, _⟩ := DataW.trod_int Tryd.underlying3 g2
    obtain ⟨b3, e3, _⟩ := DataW.trod_int Tryd.underlying3 g3
    obtain ⟨b4, e4, _⟩ := DataW.trod_int Tryd.underlying3 g4
    obtain ⟨t0, t1, t2, t3, rfl, rfl, rfl, rfl⟩ := lay_cells (a0 := a5) (a1 := a6) (a2 := a7) (a3 := a8) g5
    obtain ⟨h0, h1, h2, h3, rfl, rfl, rfl, rfl⟩ := lay_cells (a0 := a9) (a1 := a10) (a2 := a11) (a3 := a12) g6
    obtain ⟨A, n, c, l, rfl, hs, hl, hb⟩ := lays_field (v := a13) g7
    have e0' : a0 = .int .i64 b0 := by simpa using e0
    have e1' : a1 = .int .i64 b1 := by simpa using e1
    have e2' : a2 = .int .i64 b2 := by simpa using e2
    have e3' : a3 = .int .i64 b3 := by simpa using e3
    have e4' : a4 = .int .i64 b4 := by simpa using e4
    subst e0' e1' e2' e3' e4'
    exact ⟨b0, b1, b2, b3, b4, t0, t1, t2, t3, h0, h1, h2, h3, A, n, c, l, hs, ⟨hl, hb⟩, rfl⟩
end
end Go.Proofs.YtcjnhemlkahgoaaDoor
end
