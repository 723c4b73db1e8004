/-
  The walks of layer 8's Awake and Short.
-/
import Derived.Test.YtjfgnojmdbfnmaaDoorSbDecode
import Derived.Test.YtjfgnojmdbfnmaaDoorSbEqual
namespace Go.Proofs.YtjfgnojmdbfnmaaDoor
open Go.RowKit
/-- The superblock of the sanity check. -/
def Sb.one : Sb.S := ⟨1, 1, 0, 0, 0, ⟨1, 1, 4, 4⟩, ⟨0, 0, 0, 0⟩, []⟩
theorem one_valid : Sb.valid Sb.one := by decide
theorem one_parts : (Sb.enc 1 Sb.one).getD 0 0 = 3 := rfl
theorem one_good : Sb.good 1 (Sb.enc 1 Sb.one) Sb.one := ⟨by decide, one_valid, rfl⟩
theorem one_form : decide (Sb.form ⟨1, 1, 3, 4⟩) = false := by decide
theorem one_err : Sb.err Sb.one 1 = 0 := by decide
set_option maxHeartbeats 4000000 in
theorem sbawake_any (w : World) (ht : Hid (TabW w)) (hz : 0 < w.heap.size) : Calls Tryd.prog 22 #[] w fun r w' => r = .returned (.bool true) ∧ Below w.heap.size w w' := by
  have hsl : SlIs none 0 0 := sl_nil
  have HE : Hid (∀ W, Below w.heap.size w W → Calls Tryd.prog 29 #[.agg #[.int .i64 1, .int .i64 1, .int .i64 0, .int .i64 0, .int .i64 0, .int .i64 1, .int .i64 1, .int .i64 4, .int .i64 4, .int .i64 0, .int .i64 0, .int .i64 0, .int .i64 0, .slice none 0 0], .int .i64 1] W (FrEnc W (Sb.enc 1 Sb.one) 0)) := fun W hW => by
    have h := sbencode_any 1 1 0 0 0 1 1 4 4 0 0 0 0 1 none w.heap.size 0 0 [] W hW.size hsl rfl Ls.nil (ht.out.below hW hz) (Nat.lt_of_lt_of_le hz hW.size)
    have h2 : Calls Tryd.prog 29 #[.agg #[.int .i64 1, .int .i64 1, .int .i64 0, .int .i64 0, .int .i64 0, .int .i64 1, .int .i64 1, .int .i64 4, .int .i64 4, .int .i64 0, .int .i64 0, .int .i64 0, .int .i64 0, .slice none 0 0], .int .i64 1] W (FrEnc W (Sb.enc 1 Sb.one) (Sb.err Sb.one 1)) := h
    rwa [one_err] at h2
  have HLT : Hid (∀ y ∈ Sb.enc 1 Sb.one, y < 256) := Sb.enc_lt _ _
  have HLE : Hid ((Sb.enc 1 Sb.one).length = 64) := Sb.enc_length _ _
  have HD : Hid (∀ (W : World) (A : Option Addr) (c : Nat), Below w.heap.size w W → SlIs A 64 c → Bs W W.heap.size A (Sb.enc 1 Sb.one) → Calls Tryd.prog 30 #[.slice A 64 c, .int .i64 1] W fun r w' => ∃ A n c, r = .returned (.tuple #[.agg #[.int .i64 1, .int .i64 1, .int .i64 0, .int .i64 0, .int .i64 0, .int .i64 1, .int .i64 1, .int .i64 4, .int .i64 4, .int .i64 0, .int .i64 0, .int .i64 0, .int .i64 0, .slice A n c], .bool true]) ∧ Below W.heap.size W w') := fun W A c hW h1 h2 => by
    refine (sbdecode_any 1 A W.heap.size 64 c _ W (Nat.le_refl _) h1 HLE.out h2 (ht.out.below hW hz) (Nat.lt_of_lt_of_le hz hW.size)).mono fun r w' h => ?_
    rcases h with ⟨s, hs, A', n', c', e, _, hb⟩ | ⟨hn, _⟩
    · have e1 : s = Sb.one := (Sb.good_rd Sb.rl_reads Sb.counts hs).symm.trans (Sb.good_rd Sb.rl_reads Sb.counts one_good)
      subst e1
      exact ⟨A', n', c', e, hb⟩
    · exact absurd ⟨_, one_good⟩ hn
  have HV : Hid (∀ W, Calls Tryd.prog 25 #[.agg #[.int .i64 1, .int .i64 1, .int .i64 0, .int .i64 0, .int .i64 0, .int .i64 1, .int .i64 1, .int .i64 4, .int .i64 4, .int .i64 0, .int .i64 0, .int .i64 0, .int .i64 0, .slice none 0 0]] W fun r w' => r = .returned (.bool true) ∧ Below W.heap.size W w') := fun W => by
    have h := sbvalid_any 1 1 0 0 0 1 1 4 4 0 0 0 0 none W.heap.size 0 0 [] W (Nat.le_refl _) hsl rfl Ls.nil
    have h2 : Calls Tryd.prog 25 #[.agg #[.int .i64 1, .int .i64 1, .int .i64 0, .int .i64 0, .int .i64 0, .int .i64 1, .int .i64 1, .int .i64 4, .int .i64 4, .int .i64 0, .int .i64 0, .int .i64 0, .int .i64 0, .slice none 0 0]] W fun r w' => r = .returned (.bool (decide (Sb.valid Sb.one))) ∧ Below W.heap.size W w' := h
    rwa [decide_eq_true one_valid] at h2
  have HF : Hid (∀ W, Calls Tryd.prog 23 #[.agg #[.int .i64 1, .int .i64 1, .int .i64 3, .int .i64 4]] W fun r w' => r = .returned (.bool false) ∧ Below W.heap.size W w') := fun W => by
    have h := sbform_any 1 1 3 4 W
    rwa [one_form] at h
  have HPT := Lib.hid one_parts
  generalize Sb.enc 1 Sb.one = en at *
  unfold FrEnc at HE
  have hq := fun W : World => lay_eq W 1 1 4 4 1 1 4 4
  rw [Sb.sameL_self] at hq
  have HS0 := Lib.hid (sd_new w #[.int .i64 1, .int .i64 1, .int .i64 0, .int .i64 0, .int .i64 0, .int .i64 1, .int .i64 1, .int .i64 4, .int .i64 4, .int .i64 0, .int .i64 0, .int .i64 0, .int .i64 0, .slice none 0 0] 44)
  go_enter Tryd.func22, Tryd.ntmps22
  go_upto_region 2 with fail
  generalize w.alloc (.cells #[.int .i64 1, .int .i64 1, .int .i64 0, .int .i64 0, .int .i64 0, .int .i64 1, .int .i64 1, .int .i64 4, .int .i64 4, .int .i64 0, .int .i64 0, .int .i64 0, .int .i64 0, .slice none 0 0] 44) = w0 at *
  obtain ⟨x0, x1, x2, x3, x4, x5, x6, x7, x8, x9, x10, x11, x12, x13⟩ := cells14 HS0.out.1
  go_wp2_with fail
  refine (HE.out _ HS0.out.2).mono ?_
  rintro r w1 ⟨A1, n1, c1, rfl, -, h2, -, hb1⟩
  obtain ⟨rfl, hown⟩ := h2 trivial
  have HS1 := Lib.hid (HS0.out.next hb1 (by rfl) (by rfl) (by rfl) (by rfl))
  obtain ⟨A1', c1', e1, hbs, -, hn1, hm1, ho1⟩ := own_bytes hown HLT.out
  injection e1 with e1 _ e3
  subst e1 e3
  obtain ⟨g, rfl, hg1, hg2⟩ : ∃ g, A1 = some ⟨g, 0, none⟩ ∧ w0.heap.size ≤ g ∧ g < w1.heap.size := by
    rcases ho1 with ⟨_, h, _⟩ | ⟨g, h1, h2, h3⟩
    · omega
    · exact ⟨g, h1, h2, h3⟩
  have HB1 : Hid (SlIs (some (⟨g, 0, none⟩ : Addr)) 64 c1 ∧ Bs w1 w1.heap.size (some ⟨g, 0, none⟩) en) := ⟨⟨(fun e => by cases e), hn1, by unfold maxLen at hm1; exact hm1⟩, hbs⟩
  clear hb1 hown h2 hbs ho1 x0 x1 x2 x3 x4 x5 x6 x7 x8 x9 x10 x11 x12 x13
  go_wp2_with fail
  refine (HD.out _ _ _ HS1.out.2 HB1.out.1 HB1.out.2).mono ?_
  rintro r w2 ⟨A2, n2, c2, rfl, hb2⟩
  have HS2 : Hid (Sd w w.heap.size _ (w2.alloc (.cells #[.int .i64 1, .int .i64 1, .int .i64 0, .int .i64 0, .int .i64 0, .int .i64 1, .int .i64 1, .int .i64 4, .int .i64 4, .int .i64 0, .int .i64 0, .int .i64 0, .int .i64 0, .slice A2 n2 c2] 44))) := HS1.out.next (hb2.alloc hb2.size _) (by rfl) (by rfl) (by rfl) (by rfl)
  have HB2 : Hid (Bs (w2.alloc (.cells #[.int .i64 1, .int .i64 1, .int .i64 0, .int .i64 0, .int .i64 0, .int .i64 1, .int .i64 1, .int .i64 4, .int .i64 4, .int .i64 0, .int .i64 0, .int .i64 0, .int .i64 0, .slice A2 n2 c2] 44)) w1.heap.size (some ⟨g, 0, none⟩) en) := HB1.out.2.below (hb2.alloc hb2.size _) (Nat.le_refl _)
  have HN2 : Hid ((w2.alloc (.cells #[.int .i64 1, .int .i64 1, .int .i64 0, .int .i64 0, .int .i64 0, .int .i64 1, .int .i64 1, .int .i64 4, .int .i64 4, .int .i64 0, .int .i64 0, .int .i64 0, .int .i64 0, .slice A2 n2 c2] 44)).heap[w2.heap.size]? = some (.cells #[.int .i64 1, .int .i64 1, .int .i64 0, .int .i64 0, .int .i64 0, .int .i64 1, .int .i64 1, .int .i64 4, .int .i64 4, .int .i64 0, .int .i64 0, .int .i64 0, .int .i64 0, .slice A2 n2 c2] 44 (0, 0))) := heap_alloc_new _ _
  clear hb2
  go_upto_region 4 with fail
  generalize w2.alloc (.cells #[.int .i64 1, .int .i64 1, .int .i64 0, .int .i64 0, .int .i64 0, .int .i64 1, .int .i64 1, .int .i64 4, .int .i64 4, .int .i64 0, .int .i64 0, .int .i64 0, .int .i64 0, .slice A2 n2 c2] 44) = w3 at *
  obtain ⟨x0, x1, x2, x3, x4, x5, x6, x7, x8, x9, x10, x11, x12, x13⟩ := cells14 HS2.out.1
  obtain ⟨y0, y1, y2, y3, y4, y5, y6, y7, y8, y9, y10, y11, y12, y13⟩ := cells14 HN2.out
  have c0 : w3.cell? ⟨g, 0, none⟩ = some (.int .u8 3) := by
    obtain ⟨_, ad', e, h1, h3⟩ := HB2.out 0 (by rw [HLE.out]; decide)
    injection e with e
    subst e
    rw [HPT.out] at h3
    exact h3
  have i0 : (0 : Int) < (c1 : Int) := by have := HB1.out.1.2.1; omega
  go_wp2_with (first
    | (go_at_call 25; refine (HV.out _).mono ?_; rintro r w4 ⟨rfl, hb4⟩; have HS4 := Lib.hid (HS2.out.next hb4 (by rfl) (by rfl) (by rfl) (by rfl)); clear hb4)
    | (go_at_call 23; refine (HF.out _).mono ?_; rintro r w5 ⟨rfl, hb5⟩; have HS5 := Lib.hid (HS4.out.next hb5 (by rfl) (by rfl) (by rfl) (by rfl)); clear hb5))
  go_ret
  exact ⟨rfl, HS5.out.2⟩
set_option maxHeartbeats 2000000 in
theorem sbshort_any (a0 a1 a2 a3 a4 t0 t1 t2 t3 h0 h1 h2 h3 : Int) (A : Option Addr) (n c m : Nat) (hs : SlIs A n c) (hm : MinIs n 4 m) (w : World) :
    Calls Tryd.prog 21 #[.agg #[.int .i64 a0, .int .i64 a1, .int .i64 a2, .int .i64 a3, .int .i64 a4, .int .i64 t0, .int .i64 t1, .int .i64 t2, .int .i64 t3, .int .i64 h0, .int .i64 h1, .int .i64 h2, .int .i64 h3, .slice A n c]] w fun r w' => r = .returned (.agg #[.int .i64 a0, .int .i64 a1, .int .i64 a2, .int .i64 a3, .int .i64 a4, .int .i64 t0, .int .i64 t1, .int .i64 t2, .int .i64 t3, .int .i64 h0, .int .i64 h1, .int .i64 h2, .int .i64 h3, .slice A m c]) ∧ Below w.heap.size w w' := by
  have hnc := hs.2.1
  have hc63 := hs.2.2
  have HNIL := Lib.hid hs.1
  have HD0 := Lib.hid (sd2_new w #[.int .i64 a0, .int .i64 a1, .int .i64 a2, .int .i64 a3, .int .i64 a4, .int .i64 t0, .int .i64 t1, .int .i64 t2, .int .i64 t3, .int .i64 h0, .int .i64 h1, .int .i64 h2, .int .i64 h3, .slice A n c] #[.int .i64 0, .int .i64 0, .int .i64 0, .int .i64 0, .int .i64 0, .int .i64 0, .int .i64 0, .int .i64 0, .int .i64 0, .int .i64 0, .int .i64 0, .int .i64 0, .int .i64 0, .slice none 0 0] 44 44)
  clear hs
  go_enter Tryd.func21, Tryd.ntmps21
  go_upto_region 1 with fail
  generalize (w.alloc (.cells #[.int .i64 a0, .int .i64 a1, .int .i64 a2, .int .i64 a3, .int .i64 a4, .int .i64 t0, .int .i64 t1, .int .i64 t2, .int .i64 t3, .int .i64 h0, .int .i64 h1, .int .i64 h2, .int .i64 h3, .slice A n c] 44)).alloc (.cells #[.int .i64 0, .int .i64 0, .int .i64 0, .int .i64 0, .int .i64 0, .int .i64 0, .int .i64 0, .int .i64 0, .int .i64 0, .int .i64 0, .int .i64 0, .int .i64 0, .int .i64 0, .slice none 0 0] 44) = w0 at *
  obtain ⟨x0, x1, x2, x3, x4, x5, x6, x7, x8, x9, x10, x11, x12, x13⟩ := cells14 HD0.out.1
  have fz := frozen_at HD0.out.1 13
  have HX : Hid ((w0.setCell ⟨w.heap.size, 13, none⟩ (.slice A m c)).heap[w.heap.size]? = some (.cells #[.int .i64 a0, .int .i64 a1, .int .i64 a2, .int .i64 a3, .int .i64 a4, .int .i64 t0, .int .i64 t1, .int .i64 t2, .int .i64 t3, .int .i64 h0, .int .i64 h1, .int .i64 h2, .int .i64 h3, .slice A m c] 44 (0, 0)) ∧ (w0.setCell ⟨w.heap.size, 13, none⟩ (.slice A m c)).heap[w.heap.size + 1]? = some (.cells #[.int .i64 0, .int .i64 0, .int .i64 0, .int .i64 0, .int .i64 0, .int .i64 0, .int .i64 0, .int .i64 0, .int .i64 0, .int .i64 0, .int .i64 0, .int .i64 0, .int .i64 0, .slice none 0 0] 44 (0, 0)) ∧ Below w.heap.size w (w0.setCell ⟨w.heap.size, 13, none⟩ (.slice A m c))) := by
    refine ⟨?_, ?_, ?_⟩
    · have h := HD0.out.1
      simp [World.setCell, Array.getElem?_modify, h]
    · exact ((grown_set _ w.heap.size 13 _).block _ (Array.getElem?_eq_some_iff.1 HD0.out.2.1).1 (fun e => by injection e with e; omega)).trans HD0.out.2.1
    · exact HD0.out.2.2.trans (below_of_grown (grown_set _ _ _ _) (Nat.le_refl _) HD0.out.2.2.size)
  go_cut [8] (fun s wx => wx = w0.setCell ⟨w.heap.size, 13, none⟩ (.slice A m c))
  case first =>
    unfold MinIs at hm
    rcases hm with ⟨i0, rfl⟩ | ⟨i0, rfl⟩
    all_goals
      go_wp2_with fail
      go_meet
      exact rfl
  case rest =>
    subst hcut
    clear x0 x1 x2 x3 x4 x5 x6 x7 x8 x9 x10 x11 x12 x13 fz HD0
    generalize w0.setCell ⟨w.heap.size, 13, none⟩ (.slice A m c) = w1 at *
    obtain ⟨x0, x1, x2, x3, x4, x5, x6, x7, x8, x9, x10, x11, x12, x13⟩ := cells14 HX.out.1
    obtain ⟨y0, y1, y2, y3, y4, y5, y6, y7, y8, y9, y10, y11, y12, y13⟩ := cells14 HX.out.2.1
    obtain ⟨fz0, fz1, fz2, fz3, fz4, fz5, fz6, fz7, fz8, fz9, fz10, fz11, fz12, fz13⟩ := frozen14 HX.out.2.1
    go_wp2_with fail
    (try simp only [Exit.inBlock, Exit.then])
    refine bodyPost_ret (results_cell_row rfl _ _ (w.heap.size + 1) _ _ (0, 0) _ rfl (stored14 HX.out.2.1) Tryd.underlying44 rfl (by kernel_rfl)) rfl ?_
    exact ⟨rfl, HX.out.2.2.trans (below_of_grown (stored14_grown w1 (w.heap.size + 1) (.int .i64 a0) (.int .i64 a1) (.int .i64 a2) (.int .i64 a3) (.int .i64 a4) (.int .i64 t0) (.int .i64 t1) (.int .i64 t2) (.int .i64 t3) (.int .i64 h0) (.int .i64 h1) (.int .i64 h2) (.int .i64 h3) (.slice A m c)) (Nat.le_succ _) HX.out.2.2.size)⟩
theorem ls_take {w : World} {B n m : Nat} {A : Option Addr} {l : List Sb.L} (hl : l.length = n) (hm : MinIs n 4 m) (hb : Ls w B A l) : (l.take m).length = m ∧ Ls w B A (l.take m) := by
  have hmn := min_le hm
  have e : (l.take m).length = m := by rw [List.length_take]; omega
  refine ⟨e, fun k hk => ?_⟩
  rw [e] at hk
  have e2 : (l.take m).getD k Sb.L0 = l.getD k Sb.L0 := by
    rw [List.getD_eq_getElem?_getD, List.getD_eq_getElem?_getD, List.getElem?_take_of_lt hk]
  rw [e2]
  exact hb k (by omega)
end Go.Proofs.YtjfgnojmdbfnmaaDoor
