/-
  The walk of the reference's Decode, version 2.
-/
import Derived.Deep.DeepCutAuto
import Derived.Deep.CutBlock
import Derived.Test.YtjmhnbohojdodaaDoorSbOne
import Derived.Test.YtjmhnbohojdodaaDoorRecRefDecode
namespace Go.Proofs.YtjmhnbohojdodaaDoor
open Go.RowKit
set_option maxHeartbeats 2000000 in
set_option maxRecDepth 100000 in
theorem refdecode2 (seq off : Int) (ad : Addr) (B n c : Nat) (l : List Nat) (w : World) (hB : B ≤ w.heap.size) (hsq : seq ≤ 9223372036854775807) (hnc : n ≤ c) (hc : c ≤ 9223372036854775807) (hl : Hid (l.length = n)) (hb : Hid (Bs w B (some ad) l)) (hpl : Rc.place seq off) (h16 : 16 ≤ n) (hn : n ≤ 140737488355328) :
    Calls Tryd.prog 26 #[.int .i64 2, .int .i64 seq, .int .i64 off, .slice (some ad) n c] w fun e w' => (Rc.good 2 seq off l ∧ GotRec w 2 l e w') ∨ (¬ Rc.good 2 seq off l ∧ NoRec w e w') := by
  have HPL := Lib.hid hpl
  obtain ⟨p1, p2, p3⟩ := hpl
  have f1 : decide (seq < 0) = false := by simp; omega
  have f2 : decide (off < 0) = false := by simp; omega
  have f3 : decide (2147483647 < off) = false := by simp; omega
  have f4 : decide ((n : Int) < 16) = false := by simp; omega
  have hlt := hb.out.lt
  obtain ⟨b1, hb1⟩ : ∃ x, l.getD 1 0 = x := ⟨_, rfl⟩
  obtain ⟨b2, hb2⟩ : ∃ x, l.getD 2 0 = x := ⟨_, rfl⟩
  obtain ⟨q8, hq8⟩ : ∃ x, Wire.num (Rc.sub l 8 4) = x := ⟨_, rfl⟩
  obtain ⟨q4, hq4⟩ : ∃ x, Wire.num (Rc.sub l 4 4) = x := ⟨_, rfl⟩
  obtain ⟨q7, hq7⟩ : ∃ x, Wire.num (Rc.sub l 7 5) = x := ⟨_, rfl⟩
  obtain ⟨q3, hq3⟩ : ∃ x, Wire.num (Rc.sub l 3 3) = x := ⟨_, rfl⟩
  obtain ⟨bd, hbd⟩ : ∃ x, b2 / 16 = x := ⟨_, rfl⟩
  have hb1' : b1 < 256 := by rw [← hb1]; exact getD_lt hlt _
  have hb2' : b2 < 256 := by rw [← hb2]; exact getD_lt hlt _
  have hq8' : q8 < 72057594037927936 := by rw [← hq8]; exact num_small _ (sub_lt hlt _ _) (Nat.le_trans (sub_le _ _ _) (by omega))
  have hq4' : q4 < 72057594037927936 := by rw [← hq4]; exact num_small _ (sub_lt hlt _ _) (Nat.le_trans (sub_le _ _ _) (by omega))
  have hq7' : q7 < 72057594037927936 := by rw [← hq7]; exact num_small _ (sub_lt hlt _ _) (Nat.le_trans (sub_le _ _ _) (by omega))
  have hq3' : q3 < 72057594037927936 := by rw [← hq3]; exact num_small _ (sub_lt hlt _ _) (Nat.le_trans (sub_le _ _ _) (by omega))
  have HQ7 : Hid (∀ (c : Nat) (W : World), Below w.heap.size w W → Calls Tryd.prog 39 #[.slice (some ⟨ad.block, ad.off + 7, none⟩) 5 c] W fun e w' => e = .returned (.int .u64 (q7 : Int)) ∧ w' = W) := fun c W hW => by
    have h := num_part ad B 7 5 c l W (hb.out.below hW hB) (by omega) (by omega) (by rw [hl.out]; omega)
    rwa [hq7] at h
  have HQ3 : Hid (∀ (c : Nat) (W : World), Below w.heap.size w W → Calls Tryd.prog 39 #[.slice (some ⟨ad.block, ad.off + 3, none⟩) 3 c] W fun e w' => e = .returned (.int .u64 (q3 : Int)) ∧ w' = W) := fun c W hW => by
    have h := num_part ad B 3 3 c l W (hb.out.below hW hB) (by omega) (by omega) (by rw [hl.out]; omega)
    rwa [hq3] at h
  have HQ8 : Hid (∀ (c : Nat) (W : World), Below w.heap.size w W → Calls Tryd.prog 39 #[.slice (some ⟨ad.block, ad.off + 8, none⟩) 4 c] W fun e w' => e = .returned (.int .u64 (q8 : Int)) ∧ w' = W) := fun c W hW => by
    have h := num_part ad B 8 4 c l W (hb.out.below hW hB) (by omega) (by omega) (by rw [hl.out]; omega)
    rwa [hq8] at h
  have HQ4 : Hid (∀ (c : Nat) (W : World), Below w.heap.size w W → Calls Tryd.prog 39 #[.slice (some ⟨ad.block, ad.off + 4, none⟩) 4 c] W fun e w' => e = .returned (.int .u64 (q4 : Int)) ∧ w' = W) := fun c W hW => by
    have h := num_part ad B 4 4 c l W (hb.out.below hW hB) (by omega) (by omega) (by rw [hl.out]; omega)
    rwa [hq4] at h
  have HB1 : Hid (∀ (W : World), Below w.heap.size w W → W.cell? ⟨ad.block, ad.off + 1, none⟩ = some (.int .u8 (b1 : Int))) := fun W hW => by
    have h := byte_at ad B 1 l W (hb.out.below hW hB) (by omega) (by rw [hl.out]; omega)
    rwa [hb1] at h
  have HB2 : Hid (∀ (W : World), Below w.heap.size w W → W.cell? ⟨ad.block, ad.off + 2, none⟩ = some (.int .u8 (b2 : Int))) := fun W hW => by
    have h := byte_at ad B 2 l W (hb.out.below hW hB) (by omega) (by rw [hl.out]; omega)
    rwa [hb2] at h
  have HE := Lib.hid (And.intro hb1 (And.intro hb2 (And.intro hbd (And.intro hq7 hq3))))
  have HWR : Hid (IntKind.i64.wrap (b1 : Int) = (b1 : Int) ∧ IntKind.i64.wrap (b2 : Int) = (b2 : Int) ∧ IntKind.i64.wrap (q8 : Int) = (q8 : Int) ∧ IntKind.i64.wrap (q4 : Int) = (q4 : Int)) := ⟨wrap_small _ (by omega), wrap_small _ (by omega), wrap_small _ (by omega), wrap_small _ (by omega)⟩
  have HWS : Hid (IntKind.i64.wrap (q7 : Int) = (q7 : Int) ∧ IntKind.i64.wrap (q3 : Int) = (q3 : Int) ∧ (b2 : Int).tdiv 16 = (bd : Int)) := ⟨wrap_small _ (by omega), wrap_small _ (by omega), by rw [← hbd]; rfl⟩
  have HWT : Hid (IntKind.i64.wrap ((IntKind.i64.wrap (b2 : Int)).tdiv 16) = (bd : Int)) := by
    show _ = _
    rw [HWR.out.2.1, HWS.out.2.2, wrap_small bd (by omega)]
  have hnb : w.heap.size + 1 ≠ ad.block := by
    obtain ⟨_, ad', e, h2, _⟩ := hb.out 0 (by rw [hl.out]; omega)
    injection e with e
    subst e
    omega
  clear hb1 hb2 hq8 hq4 hq7 hq3 hbd hlt
  have i1 : (1 : Int) < (n : Int) := by omega
  have i2 : (2 : Int) < (n : Int) := by omega
  have i8 : (8 : Int) ≤ (c : Int) := by omega
  have i12 : (12 : Int) ≤ (c : Int) := by omega
  have i3 : (3 : Int) ≤ (c : Int) := by omega
  have i6 : (6 : Int) ≤ (c : Int) := by omega
  have i7 : (7 : Int) ≤ (c : Int) := by omega
  have hc7 : c ≠ 7 := by omega
  have hc3 : c ≠ 3 := by omega
  have hc4 : c ≠ 4 := by omega
  have hc8 : c ≠ 8 := by omega
  have HA : Hid (∀ o, Below w.heap.size w (w.alloc o)) := fun o => (Below.refl _ _).alloc (Nat.le_refl _) o
  have HAA : Hid (∀ o o', Below w.heap.size w ((w.alloc o).alloc o')) := fun o o' => (HA.out o).alloc (HA.out o).size o'
  go_enter Tryd.func26, Tryd.ntmps26
  go_upto_region 3 with fail
  go_cut [11] (fun s wx => s = .pointer (some ⟨w.heap.size + 1, 0, none⟩) ∧ Hid (Sd2 w (.cells #[.int .i64 0, .slice none 0 0, .slice none 0 0, .int .i64 0] 38 (0, 0)) (.cells #[.int .i64 (b1 : Int), .slice none 0 0, .slice none 0 0, .int .i64 (q8 : Int)] 38 (0, 0)) wx))
  case first =>
    have y1 := HB1.out (w.alloc (.cells #[.int .i64 0, .slice none 0 0, .slice none 0 0, .int .i64 0] 38)) (HA.out _)
    go_region_held3 (fun W => W.cell? ⟨ad.block, ad.off + 1, none⟩ = some (.int .u8 (b1 : Int)))
      (first
        | go_keep)
      (first
        | (go_at_call 39; refine (HQ8.out _ _ (by first | exact below_drawn (HA.out _) 1 | exact below_drawn (HAA.out _ _) 1)).mono ?_; rintro e w' ⟨rfl, rfl⟩))
    all_goals
      rw [HWR.out.1, HWR.out.2.2.1]
      go_wp2_with fail
      go_meet
      exact ⟨rfl, (heap_alloc_old _ _ (by simp)).trans (heap_alloc_new w _), alloc_at (w := w.alloc _) (by simp), below_drawn (HAA.out _ _) 1⟩
  case rest =>
    obtain ⟨rfl, HS3⟩ := hcut
    have y2 := HB2.out wc HS3.out.2.2
    go_wp2_with fail
    go_quiet (first | (go_at_call 39; refine Calls.quiet_of_same (HQ4.out _ _ (below_drawn HS3.out.2.2 _))))
    have HS4 : Hid (Sd2 w (.cells #[.int .i64 0, .slice none 0 0, .slice none 0 0, .int .i64 0] 38 (0, 0)) (.cells #[.int .i64 (b1 : Int), .slice none 0 0, .slice none 0 0, .int .i64 (q8 : Int)] 38 (0, 0)) (wc.drewN nq)) := HS3.out.drawn nq
    clear y2 HS3
    generalize wc.drewN nq = w3 at *
    go_upto_region 6 with fail
    go_cut [11] (fun s wx => s = .pointer (some ⟨w.heap.size + 1, 0, none⟩) ∧ Hid (Sd2 w (.cells #[.int .i64 0, .slice none 0 0, .slice none 0 0, .int .i64 0] 38 (0, 0)) (.cells #[.int .i64 (bd : Int), .slice none 0 0, .slice none 0 0, .int .i64 (q7 : Int)] 38 (0, 0)) wx))
    case first =>
      obtain ⟨z0, z1, z2, z3⟩ := four_cells HS4.out.2.1
      obtain ⟨g0, g1, g2, g3⟩ := four_frozen HS4.out.2.1
      have y2 := HB2.out w3 HS4.out.2.2
      have hne : w.heap.size + 1 ≠ ad.block := hnb
      go_region_held3 (fun W => W.cell? ⟨ad.block, ad.off + 2, none⟩ = some (.int .u8 (b2 : Int)))
        (first
          | go_keep)
        (first
          | (go_at_call 39; refine (HQ7.out _ _ (below_drawn HS4.out.2.2 1)).mono ?_; rintro e w' ⟨rfl, rfl⟩))
      all_goals
        rw [HWT.out, HWS.out.1]
        go_wp2_with fail
        go_meet
        exact ⟨rfl, (sd2_stored (HS4.out.drawn 1))⟩
    case rest =>
    obtain ⟨rfl, HS5⟩ := hcut
    clear HS4
    generalize wc = w5 at *
    go_upto_region 7 with fail
    have y1 := HB1.out w5 HS5.out.2.2
    go_quiet (first | (go_at_call 39; refine Calls.quiet_of_same (HQ3.out _ _ (below_drawn HS5.out.2.2 _))))
    have HS4 : Hid (Sd2 w (.cells #[.int .i64 0, .slice none 0 0, .slice none 0 0, .int .i64 0] 38 (0, 0)) (.cells #[.int .i64 (bd : Int), .slice none 0 0, .slice none 0 0, .int .i64 (q7 : Int)] 38 (0, 0)) (w5.drewN nq)) := HS5.out.drawn nq
    clear y1 HS5
    generalize w5.drewN nq = w4 at *
    have HRC : Hid ((Rc.kd 2 l : Int) = (bd : Int) ∧ Rc.kl 2 l = b1 ∧ Rc.vl 2 l = q3 ∧ Rc.xp 2 l = q7) := by
      obtain ⟨h1, h2, h5, h3, h4⟩ := HE.out
      refine ⟨?_, ?_, ?_, ?_⟩
      · show ((l.getD 2 0 / 16 : Nat) : Int) = _
        rw [h2, h5]
      · show l.getD 1 0 = _
        exact h1
      · show Wire.num (Rc.sub l 3 3) = _
        exact h4
      · show Wire.num (Rc.sub l 7 5) = _
        exact h3
    by_cases hU : 65536 < q3 ∨ n < 16 + b1 + q3
    · have hng : ¬ Rc.good 2 seq off l := fun hg => by
        obtain ⟨h1, h2, h3, -, -⟩ := hg
        have h4 := (Rc.chk_ok h3).2.2.2.1
        unfold Rc.rec at h4
        simp only at h4
        rw [Rc.sub_length _ _ _ (by omega), HRC.out.2.2.1] at h4
        rw [hl.out, HRC.out.2.1, HRC.out.2.2.1] at h2
        omega
      have HNG := Lib.hid hng
      have hu : decide ((65536 : Int) < (q3 : Int)) = true ∨ (decide ((65536 : Int) < (q3 : Int)) = false ∧ decide ((n : Int) < 16 + (b1 : Int) + (q3 : Int)) = true) := by
        simp; omega
      clear hng hU
      obtain ⟨z0, z1, z2, z3⟩ := four_cells HS4.out.1
      obtain ⟨g0, g1, g2, g3⟩ := four_frozen HS4.out.1
      rcases hu with u1 | ⟨u1, u2⟩
      all_goals
        go_wp2_with fail
        (try simp only [Exit.inBlock, Exit.then])
        refine bodyPost_ret (results_row3 rfl _ _ w.heap.size _ _ (0, 0) _ rfl (stored HS4.out.1) Tryd.underlying38 rfl (by kernel_rfl)) rfl ?_
        exact .inr ⟨HNG.out, rfl, HS4.out.2.2.trans (below_of_grown (stored_grown _ _ _ _ _ _) (Nat.le_refl _) HS4.out.2.2.size)⟩
    · have u1 : decide ((65536 : Int) < (q3 : Int)) = false := by simp; omega
      have u2 : decide ((n : Int) < 16 + (b1 : Int) + (q3 : Int)) = false := by simp; omega
      have HFIT : Hid (b1 + q3 + 16 ≤ n ∧ q3 ≤ 65536) := ⟨by omega, by omega⟩
      have j1 : (16 : Int) ≤ 16 + (b1 : Int) := by omega
      have j2 : (16 : Int) + (b1 : Int) ≤ (c : Int) := by omega
      have j3 : (16 : Int) + (b1 : Int) ≤ 16 + (b1 : Int) + (q3 : Int) := by omega
      have j4 : (16 : Int) + (b1 : Int) + (q3 : Int) ≤ (c : Int) := by omega
      clear hU
      have HC1 : Hid (Bs w4 B (if c = 16 then some ad else some ⟨ad.block, ad.off + 16, none⟩) (Rc.sub l 16 b1) ∧ (Rc.sub l 16 b1).length = b1) := by
        refine ⟨?_, Rc.sub_length _ _ _ (by rw [hl.out]; have := HFIT.out; omega)⟩
        have h := ((hb.out.bsIn.drop' 16 c (by rw [hl.out]; omega)).bs.take b1).below HS4.out.2.2 hB
        rw [Option.map_some, add_pos ad 16 (by omega)] at h
        exact h
      have HL1 : Hid (b1 ≤ 140737488355328 ∧ q3 ≤ 140737488355328) := ⟨by have := HFIT.out; omega, by have := HFIT.out; omega⟩
      have HC2 : Hid (∀ W, Below w.heap.size w W → Bs W B (if c = 16 + b1 then some ad else some (ad.add (16 + b1))) (Rc.sub l (16 + b1) q3)) := fun W hW => by
        have h := ((hb.out.bsIn.drop' (16 + b1) c (by rw [hl.out]; omega)).bs.take q3).below hW hB
        rw [Option.map_some] at h
        exact h
      have HL2 : Hid ((Rc.sub l (16 + b1) q3).length = q3) := Rc.sub_length _ _ _ (by rw [hl.out]; have := HFIT.out; omega)
      have HREC : Hid (Rc.rec 2 l = ⟨(bd : Int), Rc.sub l 16 b1, Rc.sub l (16 + b1) q3, (q7 : Int)⟩) := by
        show _ = _
        unfold Rc.rec
        rw [HRC.out.1, HRC.out.2.1, HRC.out.2.2.1, HRC.out.2.2.2]
      have HC1L := Lib.hid HC1.out.2
      have HSZ4 : Hid (w.heap.size + 1 < w4.heap.size) := (Array.getElem?_eq_some_iff.1 HS4.out.2.1).1
      go_upto_region 10 with fail
      go_cut [11, 12] (fun s s12 wx => s = .pointer (some ⟨w.heap.size + 1, 0, none⟩) ∧ s12 = .int .i64 (b1 : Int) ∧ ∃ A5 c5, Hid (SlIs A5 b1 c5 ∧ BsIn wx (w.heap.size + 2) wx.heap.size A5 (Rc.sub l 16 b1)) ∧ Hid (Sd2 w (.cells #[.int .i64 0, .slice none 0 0, .slice none 0 0, .int .i64 0] 38 (0, 0)) (.cells #[.int .i64 (bd : Int), .slice A5 b1 c5, .slice none 0 0, .int .i64 (q7 : Int)] 38 (0, 0)) wx))
      case first =>
        obtain ⟨z0, z1, z2, z3⟩ := four_cells HS4.out.2.1
        obtain ⟨g0, g1, g2, g3⟩ := four_frozen HS4.out.2.1
        by_cases hc16 : c = 16
        · have hk0 : (b1 : Int) = 0 := by omega
          have HKV : Hid (b1 = 0) := by show _ = _; omega
          subst hc16
          go_wp2_with (at_builtin; fail)
          all_goals
            go_meet
            refine ⟨rfl, by (rw [HKV.out]; try rfl), none, 0, ⟨⟨fun _ => ⟨rfl, HKV.out⟩, by have := HKV.out; omega, by decide⟩, fun k hk => absurd hk (by rw [HC1.out.2, HKV.out]; omega)⟩, ?_⟩
            rw [HKV.out]
            exact sd2_set1 HS4.out
        · go_wp2_with (at_builtin; first
            | (refine append_bytes rfl (.tmp 91) rfl B (if c = 16 then some ad else some ⟨ad.block, ad.off + 16, none⟩) b1 (c - 16) (Rc.sub l 16 b1) (by simp [Act.eval, hc16]) (fun e => by split at e <;> cases e) HC1.out.2 HC1.out.1 HL1.out.1 ?_; rintro A5 c5 w5 hs5 hb5 hB5; have HS5 : Hid (Sd2 w _ _ w5) := HS4.out.next hB5 rfl rfl rfl rfl; have HK5 := Lib.hid (And.intro hs5 hb5); have HG5 := Lib.hid hB5.size; clear z0 z1 z2 z3 g0 g1 g2 g3; obtain ⟨z0, z1, z2, z3⟩ := four_cells HS5.out.2.1; obtain ⟨g0, g1, g2, g3⟩ := four_frozen HS5.out.2.1; clear hs5 hb5 hB5))
          all_goals
            go_meet
            refine ⟨rfl, rfl, A5, c5, ⟨HK5.out.1, ?_⟩, sd2_set1 HS5.out⟩
            exact (HK5.out.2.keep fun b h1 h2 => (grown_set w5 (w.heap.size + 1) 1 (.slice A5 b1 c5)).block b h2 (fun e => by injection e with e; have := HSZ4.out; omega)).wider (by have := HSZ4.out; omega : w.heap.size + 2 ≤ _) (grown_set w5 (w.heap.size + 1) 1 (.slice A5 b1 c5)).size
      case rest =>
        obtain ⟨rfl, rfl, A5, c5, HK5, HS5⟩ := hcut
        go_upto_region 11 with fail
        clear HS4 HC1
        have HSZ5 : Hid (w.heap.size + 1 < wc.heap.size) := (Array.getElem?_eq_some_iff.1 HS5.out.2.1).1
        generalize wc = w5 at *
        go_cut [11, 13] (fun s s13 wx => s = .pointer (some ⟨w.heap.size + 1, 0, none⟩) ∧ s13 = .int .i64 (q3 : Int) ∧ ∃ A7 c7, Hid (SlIs A7 q3 c7 ∧ BsIn wx (w.heap.size + 2) wx.heap.size A5 (Rc.sub l 16 b1) ∧ BsIn wx (w.heap.size + 2) wx.heap.size A7 (Rc.sub l (16 + b1) q3)) ∧ Hid (Sd2 w (.cells #[.int .i64 0, .slice none 0 0, .slice none 0 0, .int .i64 0] 38 (0, 0)) (.cells #[.int .i64 (bd : Int), .slice A5 b1 c5, .slice A7 q3 c7, .int .i64 (q7 : Int)] 38 (0, 0)) wx))
        case first =>
          obtain ⟨z0, z1, z2, z3⟩ := four_cells HS5.out.2.1
          obtain ⟨g0, g1, g2, g3⟩ := four_frozen HS5.out.2.1
          by_cases hcv : c = 16 + b1
          · have hv0 : (q3 : Int) = 0 := by omega
            have HKV : Hid (q3 = 0) := by show _ = _; omega
            go_wp2_with (at_builtin; fail)
            all_goals
              go_meet
              have k8 := (HK5.out.2.keep fun b h1 h2 => (grown_set w5 (w.heap.size + 1) 2 (.slice none 0 0)).block b h2 (fun e => by injection e with e; have := HSZ5.out; omega)).wider (Nat.le_refl _) (grown_set w5 (w.heap.size + 1) 2 (.slice none 0 0)).size
              refine ⟨rfl, by (rw [HKV.out]; try rfl), none, 0, ⟨⟨fun _ => ⟨rfl, HKV.out⟩, by have := HKV.out; omega, by decide⟩, k8, fun k hk => absurd hk (by rw [HL2.out, HKV.out]; omega)⟩, ?_⟩
              rw [HKV.out]
              exact sd2_set2 HS5.out
          · go_wp2_with (at_builtin; first
              | (refine append_bytes rfl (.tmp 101) rfl B (if c = 16 + b1 then some ad else some (ad.add (16 + b1))) q3 (c - (16 + b1)) (Rc.sub l (16 + b1) q3) (by simp [Act.eval, hcv]) (fun e => by split at e <;> cases e) HL2.out (HC2.out _ HS5.out.2.2) HL1.out.2 ?_; rintro A7 c7 w7 hs7 hb7 hB7; have HS7 : Hid (Sd2 w _ _ w7) := HS5.out.next hB7 rfl rfl rfl rfl; have HK7 := Lib.hid (And.intro hs7 hb7); have HB7 := Lib.hid hB7; clear z0 z1 z2 z3 g0 g1 g2 g3; obtain ⟨z0, z1, z2, z3⟩ := four_cells HS7.out.2.1; obtain ⟨g0, g1, g2, g3⟩ := four_frozen HS7.out.2.1; clear hs7 hb7 hB7))
            all_goals
              go_meet
              have s7 := HB7.out.size
              have s5 := HSZ5.out
              have k5 := (HK5.out.2.keep fun b _ h => HB7.out.block b h).wider (Nat.le_refl _) s7
              have k8 := (k5.keep fun b h1 h2 => (grown_set w7 (w.heap.size + 1) 2 (.slice A7 q3 c7)).block b h2 (fun e => by injection e with e; omega)).wider (Nat.le_refl _) (grown_set w7 (w.heap.size + 1) 2 (.slice A7 q3 c7)).size
              have k9 := (HK7.out.2.keep fun b h1 h2 => (grown_set w7 (w.heap.size + 1) 2 (.slice A7 q3 c7)).block b h2 (fun e => by injection e with e; omega)).wider (by omega : w.heap.size + 2 ≤ _) (grown_set w7 (w.heap.size + 1) 2 (.slice A7 q3 c7)).size
              exact ⟨rfl, rfl, A7, c7, ⟨HK7.out.1, k8, k9⟩, sd2_set2 HS7.out⟩
        case rest =>
          obtain ⟨rfl, rfl, A7, c7, HK8, HS8⟩ := hcut
          have HK9 : Hid (SlIs A5 b1 c5 ∧ SlIs A7 q3 c7) := ⟨HK5.out.1, HK8.out.1⟩
          have HKB := Lib.hid HK8.out.2
          clear HK5 HK8 HS5 HSZ5
          generalize wc = w8 at *
          obtain ⟨z0, z1, z2, z3⟩ := four_cells HS8.out.2.1
          go_wp2_with fail
          refine (reflen_any (bd : Int) A5 b1 c5 A7 q3 c7 (q7 : Int) w8 HL1.out.1 HL1.out.2).mono ?_
          rintro e w9 ⟨rfl, hb9⟩
          have HS9 := Lib.hid (HS8.out.next hb9 (by rfl) (by rfl) (by rfl) (by rfl))
          have HB9 : Hid (BsIn w9 (w.heap.size + 2) w9.heap.size A5 (Rc.sub l 16 b1) ∧ BsIn w9 (w.heap.size + 2) w9.heap.size A7 (Rc.sub l (16 + b1) q3)) :=
            ⟨(HKB.out.1.keep fun b _ h => hb9.block b h).wider (Nat.le_refl _) hb9.size, (HKB.out.2.keep fun b _ h => hb9.block b h).wider (Nat.le_refl _) hb9.size⟩
          clear hb9 HS8 HKB z0 z1 z2 z3
          obtain ⟨z0, z1, z2, z3⟩ := four_cells HS9.out.2.1
          have HCK := Lib.hid (fun W => refcheck_any 2 (bd : Int) A5 b1 c5 A7 q3 c7 (q7 : Int) W)
          have HCQ : Hid (Rc.check 2 (Rc.rec 2 l) = Rc.chk 2 (bd : Int) b1 q3 (q7 : Int)) := by
            show _ = _
            unfold Rc.check
            rw [HREC.out]
            simp only
            rw [HC1L.out, HL2.out]
          obtain ⟨N, hN⟩ : ∃ N, 16 + b1 + q3 = N := ⟨_, rfl⟩
          have jN : (N : Int) ≤ (c : Int) := by omega
          have jN0 : (0 : Int) ≤ (N : Int) := by omega
          have HNN : Hid (N ≤ n ∧ 16 + b1 + q3 = N) := ⟨by have := HFIT.out; omega, hN⟩
          rw [hN]
          clear hN
          by_cases hck : Rc.chk 2 (bd : Int) b1 q3 (q7 : Int) = 0
          · have HRE : Hid (∀ W, Below w9.heap.size w9 W → Calls Tryd.prog 33 #[.int .i64 2, .int .i64 seq, .int .i64 off, .agg #[.int .i64 (bd : Int), .slice A5 b1 c5, .slice A7 q3 c7, .int .i64 (q7 : Int)]] W fun e w' => ∃ A3 c3, e = .returned (.slice A3 (Rc.enc 2 seq off (Rc.rec 2 l)).length c3) ∧ SlIs A3 (Rc.enc 2 seq off (Rc.rec 2 l)).length c3 ∧ Bs w' w'.heap.size A3 (Rc.enc 2 seq off (Rc.rec 2 l)) ∧ Below W.heap.size W w') := fun W hW => by
              have h := HCQ.out.trans hck
              rw [HREC.out] at h ⊢
              exact refencode_any 2 seq off (bd : Int) (q7 : Int) _ _ A5 w9.heap.size b1 c5 A7 q3 c7 W h HPL.out hW.size hsq ⟨HK9.out.1, HC1L.out, HB9.out.1.bs.below hW (Nat.le_refl _)⟩ ⟨HK9.out.2, HL2.out, HB9.out.2.bs.below hW (Nat.le_refl _)⟩
            have HEN : Hid ((Rc.enc 2 seq off (Rc.rec 2 l)).length = N) := by
              show _ = _
              rw [Rc.enc_length, HREC.out]
              unfold Rc.len
              simp only
              rw [HC1L.out, HL2.out, HNN.out.2]
            have HGD : Hid (Rc.enc 2 seq off (Rc.rec 2 l) = l.take N → Rc.good 2 seq off l) := fun h => by
              refine ⟨by rw [hl.out]; exact h16, ?_, HCQ.out.trans hck, HPL.out, ?_⟩
              · rw [hl.out, HRC.out.2.1, HRC.out.2.2.1]; have := HNN.out; omega
              · rw [HRC.out.2.1, HRC.out.2.2.1, HNN.out.2]; exact h
            have HBD : Hid (Rc.good 2 seq off l → Rc.enc 2 seq off (Rc.rec 2 l) = l.take N) := fun h => by
              have h5 := h.2.2.2.2
              rw [HRC.out.2.1, HRC.out.2.2.1, HNN.out.2] at h5
              exact h5
            rw [HEN.out] at HRE
            have HEQ : Hid (∀ W A3 c3, Below w9.heap.size w9 W → Bs W W.heap.size A3 (Rc.enc 2 seq off (Rc.rec 2 l)) → Calls Tryd.prog 20 #[.slice A3 N c3, .slice (some ad) N c] W (SaysQuiet (decide (Rc.enc 2 seq off (Rc.rec 2 l) = l.take N)) W)) := fun W A3 c3 hW h3 =>
              refeq_any A3 (some ad) W.heap.size B N N c3 c _ _ W HEN.out (by show _ = _; rw [List.length_take, hl.out]; have := HNN.out; omega) (by have := HNN.out; omega) (by have := HNN.out; omega) h3 ((hb.out.take N).below (HS9.out.2.2.trans (hW.mono HS9.out.2.2.size)) hB)
            rw [hck] at HCK
            generalize Rc.enc 2 seq off (Rc.rec 2 l) = en at HRE HEN HGD HBD HEQ
            clear HCQ hck
            by_cases henc : en = l.take N
            · rw [decide_eq_true henc] at HEQ
              have HGG := Lib.hid (HGD.out henc)
              clear HGD HBD henc
              go_upto_region 13 with fail
              refine wp_region_held_drew (S := (fun W => W.cell? ⟨w.heap.size + 1, 0, none⟩ = some (.int .i64 (bd : Int)) ∧ W.cell? ⟨w.heap.size + 1, 1, none⟩ = some (.slice A5 b1 c5) ∧ W.cell? ⟨w.heap.size + 1, 2, none⟩ = some (.slice A7 q3 c7) ∧ W.cell? ⟨w.heap.size + 1, 3, none⟩ = some (.int .i64 (q7 : Int)))) (by kernel_rfl) (four_cells (HS9.out.drawn 1).2.1) (fun hH => ?_)
              change wpAnyH _ _ _ _ _ 16 #[false, false, false, false, false, false, false, false, false, false, false, false, false, false, false, false] _ _
              refine held_take (i := 0) (v := ?_) (d := some 106) rfl rfl (by kernel_rfl) (by kernel_rfl) (by kernel_rfl) (fun _ _ _ h => h) hH ⟨by rfl, fun w hSw => ?_⟩ ?_
              rotate_left
              · obtain ⟨s0, s1, s2, s3⟩ := hSw
                (go_simp; all_goals with_reducible rfl)
              simp only [Act.put, List.setIfInBounds_toArray, List.set_cons_zero, List.set_cons_succ]
              refine held_take (i := 1) (v := ?_) (d := some 107) rfl rfl (by kernel_rfl) (by kernel_rfl) (by kernel_rfl) (fun _ _ _ h => h) hH ⟨by rfl, fun w hSw => ?_⟩ ?_
              rotate_left
              · obtain ⟨s0, s1, s2, s3⟩ := hSw
                (go_simp; all_goals with_reducible rfl)
              simp only [Act.put, List.setIfInBounds_toArray, List.set_cons_zero, List.set_cons_succ]
              refine held_step (i := 2) rfl (by kernel_rfl) (by rfl) (fun K hK => ?_)
              clear hH
              go_simp
              refine (HCK.out _).mono ?_
              rintro e w10 ⟨rfl, hb10⟩
              have HS10 : Hid (Sd2 w _ _ w10) := HS9.out.next hb10 rfl rfl rfl rfl
              have HX10 : Hid (Below w9.heap.size w9 w10) := below_drop hb10
              clear hb10
              have hH := four_cells HS10.out.2.1
              refine hK _ _ hH ?_
              clear hK K
              simp only [List.setIfInBounds_toArray, List.set_cons_zero, List.set_cons_succ]
              refine held_take (i := 3) (v := ?_) (d := some 109) rfl rfl (by kernel_rfl) (by kernel_rfl) (by kernel_rfl) (fun _ _ _ h => h) hH ⟨by rfl, fun w hSw => ?_⟩ ?_
              rotate_left
              · obtain ⟨s0, s1, s2, s3⟩ := hSw
                (go_simp; all_goals with_reducible rfl)
              simp only [Act.put, List.setIfInBounds_toArray, List.set_cons_zero, List.set_cons_succ]
              refine held_take (i := 4) (v := ?_) (d := some 110) rfl rfl (by kernel_rfl) (by kernel_rfl) (by kernel_rfl) (fun _ _ _ h => h) hH ⟨by rfl, fun w hSw => ?_⟩ ?_
              rotate_left
              · obtain ⟨s0, s1, s2, s3⟩ := hSw
                (go_simp; all_goals with_reducible rfl)
              simp only [Act.put, List.setIfInBounds_toArray, List.set_cons_zero, List.set_cons_succ]
              refine held_take (i := 5) (v := ?_) (d := some 111) rfl rfl (by kernel_rfl) (by kernel_rfl) (by kernel_rfl) (fun _ _ _ h => h) hH ⟨by rfl, fun w hSw => ?_⟩ ?_
              rotate_left
              · obtain ⟨s0, s1, s2, s3⟩ := hSw
                (go_simp; all_goals with_reducible rfl)
              simp only [Act.put, List.setIfInBounds_toArray, List.set_cons_zero, List.set_cons_succ]
              refine held_take (i := 6) (v := ?_) (d := some 112) rfl rfl (by kernel_rfl) (by kernel_rfl) (by kernel_rfl) (fun _ _ _ h => h) hH ⟨by rfl, fun w hSw => ?_⟩ ?_
              rotate_left
              · obtain ⟨s0, s1, s2, s3⟩ := hSw
                (go_simp; all_goals with_reducible rfl)
              simp only [Act.put, List.setIfInBounds_toArray, List.set_cons_zero, List.set_cons_succ]
              refine held_take (i := 7) (v := ?_) (d := some 113) rfl rfl (by kernel_rfl) (by kernel_rfl) (by kernel_rfl) (fun _ _ _ h => h) hH ⟨by rfl, fun w hSw => ?_⟩ ?_
              rotate_left
              · obtain ⟨s0, s1, s2, s3⟩ := hSw
                (go_simp; all_goals with_reducible rfl)
              simp only [Act.put, List.setIfInBounds_toArray, List.set_cons_zero, List.set_cons_succ]
              refine held_take (i := 8) (v := ?_) (d := some 114) rfl rfl (by kernel_rfl) (by kernel_rfl) (by kernel_rfl) (fun _ _ _ h => h) hH ⟨by rfl, fun w hSw => ?_⟩ ?_
              rotate_left
              · obtain ⟨s0, s1, s2, s3⟩ := hSw
                (go_simp; all_goals with_reducible rfl)
              simp only [Act.put, List.setIfInBounds_toArray, List.set_cons_zero, List.set_cons_succ]
              refine held_take (i := 10) (v := ?_) (d := some 116) rfl rfl (by kernel_rfl) (by kernel_rfl) (by kernel_rfl) (fun _ _ _ h => h) hH ⟨by rfl, fun w hSw => ?_⟩ ?_
              rotate_left
              · obtain ⟨s0, s1, s2, s3⟩ := hSw
                (go_simp; all_goals with_reducible rfl)
              simp only [Act.put, List.setIfInBounds_toArray, List.set_cons_zero, List.set_cons_succ]
              refine held_take (i := 11) (v := ?_) (d := some 117) rfl rfl (by kernel_rfl) (by kernel_rfl) (by kernel_rfl) (fun _ _ _ h => h) hH ⟨by rfl, fun w hSw => ?_⟩ ?_
              rotate_left
              · obtain ⟨s0, s1, s2, s3⟩ := hSw
                (go_simp; all_goals with_reducible rfl)
              simp only [Act.put, List.setIfInBounds_toArray, List.set_cons_zero, List.set_cons_succ]
              refine held_take (i := 12) (v := ?_) (d := some 118) rfl rfl (by kernel_rfl) (by kernel_rfl) (by kernel_rfl) (fun _ _ _ h => h) hH ⟨by rfl, fun w hSw => ?_⟩ ?_
              rotate_left
              · obtain ⟨s0, s1, s2, s3⟩ := hSw
                (go_simp; all_goals with_reducible rfl)
              simp only [Act.put, List.setIfInBounds_toArray, List.set_cons_zero, List.set_cons_succ]
              refine held_step (i := 9) rfl (by kernel_rfl) (by rfl) (fun K hK => ?_)
              clear hH
              go_simp
              refine (HRE.out _ HX10.out).mono ?_
              rintro e w11 ⟨A3, c3, rfl, hs3, hbs3, hb11⟩
              have HS11 : Hid (Sd2 w _ _ w11) := HS10.out.next hb11 rfl rfl rfl rfl
              have HX11 : Hid (Below w9.heap.size w9 w11) := HX10.out.trans (hb11.mono HX10.out.size)
              have HE11 := Lib.hid (And.intro hs3 hbs3)
              clear hb11 hs3 hbs3
              have hH := four_cells HS11.out.2.1
              refine hK _ _ hH ?_
              clear hK K
              simp only [List.setIfInBounds_toArray, List.set_cons_zero, List.set_cons_succ]
              refine held_step (i := 13) rfl (by kernel_rfl) (by rfl) (fun K hK => ?_)
              clear hH
              go_simp
              refine (HEQ.out _ A3 c3 HX11.out HE11.out.2).mono ?_
              rintro e w12 ⟨rfl, k12, rfl⟩
              have HS12 : Hid (Sd2 w _ _ (w11.drewN k12)) := HS11.out.drawn k12
              have hH := four_cells HS12.out.2.1
              refine hK _ _ hH ?_
              clear hK K
              simp only [List.setIfInBounds_toArray, List.set_cons_zero, List.set_cons_succ]
              refine held_take (i := 14) (v := ?_) (d := some 120) rfl rfl (by kernel_rfl) (by kernel_rfl) (by kernel_rfl) (fun _ _ _ h => h) hH ⟨by rfl, fun w hSw => ?_⟩ ?_
              rotate_left
              · obtain ⟨s0, s1, s2, s3⟩ := hSw
                (go_simp; all_goals with_reducible rfl)
              simp only [Act.put, List.setIfInBounds_toArray, List.set_cons_zero, List.set_cons_succ]
              refine held_take (i := 15) (v := ?_) (d := some 121) rfl rfl (by kernel_rfl) (by kernel_rfl) (by kernel_rfl) (fun _ _ _ h => h) hH ⟨by rfl, fun w hSw => ?_⟩ ?_
              rotate_left
              · obtain ⟨s0, s1, s2, s3⟩ := hSw
                (go_simp; all_goals with_reducible rfl)
              simp only [Act.put, List.setIfInBounds_toArray, List.set_cons_zero, List.set_cons_succ]
              refine wpAnyH_done (by kernel_rfl) ?_ _
              obtain ⟨x0, x1, x2, x3⟩ := four_cells HS12.out.1
              obtain ⟨g0, g1, g2, g3⟩ := four_frozen HS12.out.1
              clear z0 z1 z2 z3
              obtain ⟨z0, z1, z2, z3⟩ := hH
              go_wp2_with fail
              (try simp only [Exit.inBlock, Exit.then])
              refine bodyPost_ret (results_row3 rfl _ _ w.heap.size _ _ (0, 0) _ rfl (stored HS12.out.1) Tryd.underlying38 rfl (by kernel_rfl)) rfl ?_
              have HG := stored_grown (w11.drewN k12) w.heap.size (.int .i64 (bd : Int)) (.slice A5 b1 c5) (.slice A7 q3 c7) (.int .i64 (q7 : Int))
              have HZ := HX11.out.size
              have hsz := HS12.out.2.2.size
              have K5 := (HB9.out.1.keep fun b _ h => HX11.out.block b h).wider (Nat.le_refl _) HZ
              have K7 := (HB9.out.2.keep fun b _ h => HX11.out.block b h).wider (Nat.le_refl _) HZ
              have M5 := (BsIn.keep (w' := w11.drewN k12) K5 fun b _ _ => rfl)
              have M7 := (BsIn.keep (w' := w11.drewN k12) K7 fun b _ _ => rfl)
              have N5 := (M5.keep fun b h1 h2 => HG.block b h2 (fun e => by injection e with e; omega)).wider (by omega : w.heap.size ≤ w.heap.size + 2) HG.size
              have N7 := (M7.keep fun b h1 h2 => HG.block b h2 (fun e => by injection e with e; omega)).wider (by omega : w.heap.size ≤ w.heap.size + 2) HG.size
              refine .inl ⟨HGG.out, A5, c5, A7, c7, ?_, ?_, ?_, ?_, ?_, HS12.out.2.2.trans (below_of_grown HG (Nat.le_refl _) HS12.out.2.2.size)⟩
              · rw [HRC.out.1, HRC.out.2.1, HRC.out.2.2.1, HRC.out.2.2.2, HNN.out.2]; rfl
              · rw [HRC.out.2.1]; exact HK9.out.1
              · rw [HRC.out.2.2.1]; exact HK9.out.2
              · rw [HRC.out.2.1]; exact N5
              · rw [HRC.out.2.1, HRC.out.2.2.1]; exact N7
            · rw [decide_eq_false henc] at HEQ
              have HNG : Hid (¬ Rc.good 2 seq off l) := fun h => henc (HBD.out h)
              clear HGD HBD henc
              go_upto_region 13 with fail
              refine wp_region_held_drew (S := (fun W => W.cell? ⟨w.heap.size + 1, 0, none⟩ = some (.int .i64 (bd : Int)) ∧ W.cell? ⟨w.heap.size + 1, 1, none⟩ = some (.slice A5 b1 c5) ∧ W.cell? ⟨w.heap.size + 1, 2, none⟩ = some (.slice A7 q3 c7) ∧ W.cell? ⟨w.heap.size + 1, 3, none⟩ = some (.int .i64 (q7 : Int)))) (by kernel_rfl) (four_cells (HS9.out.drawn 1).2.1) (fun hH => ?_)
              change wpAnyH _ _ _ _ _ 16 #[false, false, false, false, false, false, false, false, false, false, false, false, false, false, false, false] _ _
              refine held_take (i := 0) (v := ?_) (d := some 106) rfl rfl (by kernel_rfl) (by kernel_rfl) (by kernel_rfl) (fun _ _ _ h => h) hH ⟨by rfl, fun w hSw => ?_⟩ ?_
              rotate_left
              · obtain ⟨s0, s1, s2, s3⟩ := hSw
                (go_simp; all_goals with_reducible rfl)
              simp only [Act.put, List.setIfInBounds_toArray, List.set_cons_zero, List.set_cons_succ]
              refine held_take (i := 1) (v := ?_) (d := some 107) rfl rfl (by kernel_rfl) (by kernel_rfl) (by kernel_rfl) (fun _ _ _ h => h) hH ⟨by rfl, fun w hSw => ?_⟩ ?_
              rotate_left
              · obtain ⟨s0, s1, s2, s3⟩ := hSw
                (go_simp; all_goals with_reducible rfl)
              simp only [Act.put, List.setIfInBounds_toArray, List.set_cons_zero, List.set_cons_succ]
              refine held_step (i := 2) rfl (by kernel_rfl) (by rfl) (fun K hK => ?_)
              clear hH
              go_simp
              refine (HCK.out _).mono ?_
              rintro e w10 ⟨rfl, hb10⟩
              have HS10 : Hid (Sd2 w _ _ w10) := HS9.out.next hb10 rfl rfl rfl rfl
              have HX10 : Hid (Below w9.heap.size w9 w10) := below_drop hb10
              clear hb10
              have hH := four_cells HS10.out.2.1
              refine hK _ _ hH ?_
              clear hK K
              simp only [List.setIfInBounds_toArray, List.set_cons_zero, List.set_cons_succ]
              refine held_take (i := 3) (v := ?_) (d := some 109) rfl rfl (by kernel_rfl) (by kernel_rfl) (by kernel_rfl) (fun _ _ _ h => h) hH ⟨by rfl, fun w hSw => ?_⟩ ?_
              rotate_left
              · obtain ⟨s0, s1, s2, s3⟩ := hSw
                (go_simp; all_goals with_reducible rfl)
              simp only [Act.put, List.setIfInBounds_toArray, List.set_cons_zero, List.set_cons_succ]
              refine held_take (i := 4) (v := ?_) (d := some 110) rfl rfl (by kernel_rfl) (by kernel_rfl) (by kernel_rfl) (fun _ _ _ h => h) hH ⟨by rfl, fun w hSw => ?_⟩ ?_
              rotate_left
              · obtain ⟨s0, s1, s2, s3⟩ := hSw
                (go_simp; all_goals with_reducible rfl)
              simp only [Act.put, List.setIfInBounds_toArray, List.set_cons_zero, List.set_cons_succ]
              refine held_take (i := 5) (v := ?_) (d := some 111) rfl rfl (by kernel_rfl) (by kernel_rfl) (by kernel_rfl) (fun _ _ _ h => h) hH ⟨by rfl, fun w hSw => ?_⟩ ?_
              rotate_left
              · obtain ⟨s0, s1, s2, s3⟩ := hSw
                (go_simp; all_goals with_reducible rfl)
              simp only [Act.put, List.setIfInBounds_toArray, List.set_cons_zero, List.set_cons_succ]
              refine held_take (i := 6) (v := ?_) (d := some 112) rfl rfl (by kernel_rfl) (by kernel_rfl) (by kernel_rfl) (fun _ _ _ h => h) hH ⟨by rfl, fun w hSw => ?_⟩ ?_
              rotate_left
              · obtain ⟨s0, s1, s2, s3⟩ := hSw
                (go_simp; all_goals with_reducible rfl)
              simp only [Act.put, List.setIfInBounds_toArray, List.set_cons_zero, List.set_cons_succ]
              refine held_take (i := 7) (v := ?_) (d := some 113) rfl rfl (by kernel_rfl) (by kernel_rfl) (by kernel_rfl) (fun _ _ _ h => h) hH ⟨by rfl, fun w hSw => ?_⟩ ?_
              rotate_left
              · obtain ⟨s0, s1, s2, s3⟩ := hSw
                (go_simp; all_goals with_reducible rfl)
              simp only [Act.put, List.setIfInBounds_toArray, List.set_cons_zero, List.set_cons_succ]
              refine held_take (i := 8) (v := ?_) (d := some 114) rfl rfl (by kernel_rfl) (by kernel_rfl) (by kernel_rfl) (fun _ _ _ h => h) hH ⟨by rfl, fun w hSw => ?_⟩ ?_
              rotate_left
              · obtain ⟨s0, s1, s2, s3⟩ := hSw
                (go_simp; all_goals with_reducible rfl)
              simp only [Act.put, List.setIfInBounds_toArray, List.set_cons_zero, List.set_cons_succ]
              refine held_take (i := 10) (v := ?_) (d := some 116) rfl rfl (by kernel_rfl) (by kernel_rfl) (by kernel_rfl) (fun _ _ _ h => h) hH ⟨by rfl, fun w hSw => ?_⟩ ?_
              rotate_left
              · obtain ⟨s0, s1, s2, s3⟩ := hSw
                (go_simp; all_goals with_reducible rfl)
              simp only [Act.put, List.setIfInBounds_toArray, List.set_cons_zero, List.set_cons_succ]
              refine held_take (i := 11) (v := ?_) (d := some 117) rfl rfl (by kernel_rfl) (by kernel_rfl) (by kernel_rfl) (fun _ _ _ h => h) hH ⟨by rfl, fun w hSw => ?_⟩ ?_
              rotate_left
              · obtain ⟨s0, s1, s2, s3⟩ := hSw
                (go_simp; all_goals with_reducible rfl)
              simp only [Act.put, List.setIfInBounds_toArray, List.set_cons_zero, List.set_cons_succ]
              refine held_take (i := 12) (v := ?_) (d := some 118) rfl rfl (by kernel_rfl) (by kernel_rfl) (by kernel_rfl) (fun _ _ _ h => h) hH ⟨by rfl, fun w hSw => ?_⟩ ?_
              rotate_left
              · obtain ⟨s0, s1, s2, s3⟩ := hSw
                (go_simp; all_goals with_reducible rfl)
              simp only [Act.put, List.setIfInBounds_toArray, List.set_cons_zero, List.set_cons_succ]
              refine held_step (i := 9) rfl (by kernel_rfl) (by rfl) (fun K hK => ?_)
              clear hH
              go_simp
              refine (HRE.out _ HX10.out).mono ?_
              rintro e w11 ⟨A3, c3, rfl, hs3, hbs3, hb11⟩
              have HS11 : Hid (Sd2 w _ _ w11) := HS10.out.next hb11 rfl rfl rfl rfl
              have HX11 : Hid (Below w9.heap.size w9 w11) := HX10.out.trans (hb11.mono HX10.out.size)
              have HE11 := Lib.hid (And.intro hs3 hbs3)
              clear hb11 hs3 hbs3
              have hH := four_cells HS11.out.2.1
              refine hK _ _ hH ?_
              clear hK K
              simp only [List.setIfInBounds_toArray, List.set_cons_zero, List.set_cons_succ]
              refine held_step (i := 13) rfl (by kernel_rfl) (by rfl) (fun K hK => ?_)
              clear hH
              go_simp
              refine (HEQ.out _ A3 c3 HX11.out HE11.out.2).mono ?_
              rintro e w12 ⟨rfl, k12, rfl⟩
              have HS12 : Hid (Sd2 w _ _ (w11.drewN k12)) := HS11.out.drawn k12
              have hH := four_cells HS12.out.2.1
              refine hK _ _ hH ?_
              clear hK K
              simp only [List.setIfInBounds_toArray, List.set_cons_zero, List.set_cons_succ]
              refine held_take (i := 14) (v := ?_) (d := some 120) rfl rfl (by kernel_rfl) (by kernel_rfl) (by kernel_rfl) (fun _ _ _ h => h) hH ⟨by rfl, fun w hSw => ?_⟩ ?_
              rotate_left
              · obtain ⟨s0, s1, s2, s3⟩ := hSw
                (go_simp; all_goals with_reducible rfl)
              simp only [Act.put, List.setIfInBounds_toArray, List.set_cons_zero, List.set_cons_succ]
              refine held_take (i := 15) (v := ?_) (d := some 121) rfl rfl (by kernel_rfl) (by kernel_rfl) (by kernel_rfl) (fun _ _ _ h => h) hH ⟨by rfl, fun w hSw => ?_⟩ ?_
              rotate_left
              · obtain ⟨s0, s1, s2, s3⟩ := hSw
                (go_simp; all_goals with_reducible rfl)
              simp only [Act.put, List.setIfInBounds_toArray, List.set_cons_zero, List.set_cons_succ]
              refine wpAnyH_done (by kernel_rfl) ?_ _
              obtain ⟨x0, x1, x2, x3⟩ := four_cells HS12.out.1
              obtain ⟨g0, g1, g2, g3⟩ := four_frozen HS12.out.1
              clear hH
              go_wp2_with fail
              (try simp only [Exit.inBlock, Exit.then])
              refine bodyPost_ret (results_row3 rfl _ _ w.heap.size _ _ (0, 0) _ rfl (stored HS12.out.1) Tryd.underlying38 rfl (by kernel_rfl)) rfl ?_
              exact .inr ⟨HNG.out, rfl, HS12.out.2.2.trans (below_of_grown (stored_grown _ _ _ _ _ _) (Nat.le_refl _) HS12.out.2.2.size)⟩
          · have HNG : Hid (¬ Rc.good 2 seq off l) := fun hg => hck (HCQ.out.symm.trans hg.2.2.1)
            obtain ⟨q, hq⟩ : ∃ q, Rc.chk 2 (bd : Int) b1 q3 (q7 : Int) = q := ⟨_, rfl⟩
            rw [hq] at HCK hck
            have f9 : (q != 0) = true := by rw [bne_iff_ne]; exact hck
            clear HCQ hq hck
            go_upto_region 13 with fail
            refine wp_region_held_drew (S := (fun W => W.cell? ⟨w.heap.size + 1, 0, none⟩ = some (.int .i64 (bd : Int)) ∧ W.cell? ⟨w.heap.size + 1, 1, none⟩ = some (.slice A5 b1 c5) ∧ W.cell? ⟨w.heap.size + 1, 2, none⟩ = some (.slice A7 q3 c7) ∧ W.cell? ⟨w.heap.size + 1, 3, none⟩ = some (.int .i64 (q7 : Int)))) (by kernel_rfl) (four_cells (HS9.out.drawn 1).2.1) (fun hH => ?_)
            change wpAnyH _ _ _ _ _ 16 #[false, false, false, false, false, false, false, false, false, false, false, false, false, false, false, false] _ _
            refine held_take (i := 0) (v := ?_) (d := some 106) rfl rfl (by kernel_rfl) (by kernel_rfl) (by kernel_rfl) (fun _ _ _ h => h) hH ⟨by rfl, fun w hSw => ?_⟩ ?_
            rotate_left
            · obtain ⟨s0, s1, s2, s3⟩ := hSw
              (go_simp; all_goals with_reducible rfl)
            simp only [Act.put, List.setIfInBounds_toArray, List.set_cons_zero, List.set_cons_succ]
            refine held_take (i := 1) (v := ?_) (d := some 107) rfl rfl (by kernel_rfl) (by kernel_rfl) (by kernel_rfl) (fun _ _ _ h => h) hH ⟨by rfl, fun w hSw => ?_⟩ ?_
            rotate_left
            · obtain ⟨s0, s1, s2, s3⟩ := hSw
              (go_simp; all_goals with_reducible rfl)
            simp only [Act.put, List.setIfInBounds_toArray, List.set_cons_zero, List.set_cons_succ]
            refine held_step (i := 2) rfl (by kernel_rfl) (by rfl) (fun K hK => ?_)
            clear hH
            go_simp
            refine (HCK.out _).mono ?_
            rintro e w10 ⟨rfl, hb10⟩
            have HS10 : Hid (Sd2 w _ _ w10) := HS9.out.next hb10 rfl rfl rfl rfl
            clear hb10
            have hH := four_cells HS10.out.2.1
            refine hK _ _ hH ?_
            clear hK K
            simp only [List.setIfInBounds_toArray, List.set_cons_zero, List.set_cons_succ]
            refine held_take (i := 3) (v := ?_) (d := some 109) rfl rfl (by kernel_rfl) (by kernel_rfl) (by kernel_rfl) (fun _ _ _ h => h) hH ⟨by rfl, fun w hSw => ?_⟩ ?_
            rotate_left
            · obtain ⟨s0, s1, s2, s3⟩ := hSw
              (go_simp; all_goals with_reducible rfl)
            simp only [Act.put, List.setIfInBounds_toArray, List.set_cons_zero, List.set_cons_succ]
            refine held_take (i := 4) (v := ?_) (d := some 110) rfl rfl (by kernel_rfl) (by kernel_rfl) (by kernel_rfl) (fun _ _ _ h => h) hH ⟨by rfl, fun w hSw => ?_⟩ ?_
            rotate_left
            · obtain ⟨s0, s1, s2, s3⟩ := hSw
              (go_simp; all_goals with_reducible rfl)
            simp only [Act.put, List.setIfInBounds_toArray, List.set_cons_zero, List.set_cons_succ]
            refine held_skip (i := 5) (d := some 111) rfl rfl (by kernel_rfl) (by kernel_rfl) (by kernel_rfl) (fun _ _ _ h => h) hH (by rfl) ?_
            simp only [Act.put, List.setIfInBounds_toArray, List.set_cons_zero, List.set_cons_succ]
            refine held_skip (i := 6) (d := some 112) rfl rfl (by kernel_rfl) (by kernel_rfl) (by kernel_rfl) (fun _ _ _ h => h) hH (by rfl) ?_
            simp only [Act.put, List.setIfInBounds_toArray, List.set_cons_zero, List.set_cons_succ]
            refine held_skip (i := 7) (d := some 113) rfl rfl (by kernel_rfl) (by kernel_rfl) (by kernel_rfl) (fun _ _ _ h => h) hH (by rfl) ?_
            simp only [Act.put, List.setIfInBounds_toArray, List.set_cons_zero, List.set_cons_succ]
            refine held_skip (i := 8) (d := some 114) rfl rfl (by kernel_rfl) (by kernel_rfl) (by kernel_rfl) (fun _ _ _ h => h) hH (by rfl) ?_
            simp only [Act.put, List.setIfInBounds_toArray, List.set_cons_zero, List.set_cons_succ]
            refine held_skip (i := 10) (d := some 116) rfl rfl (by kernel_rfl) (by kernel_rfl) (by kernel_rfl) (fun _ _ _ h => h) hH (by rfl) ?_
            simp only [Act.put, List.setIfInBounds_toArray, List.set_cons_zero, List.set_cons_succ]
            refine held_skip (i := 11) (d := some 117) rfl rfl (by kernel_rfl) (by kernel_rfl) (by kernel_rfl) (fun _ _ _ h => h) hH (by rfl) ?_
            simp only [Act.put, List.setIfInBounds_toArray, List.set_cons_zero, List.set_cons_succ]
            refine held_skip (i := 12) (d := some 118) rfl rfl (by kernel_rfl) (by kernel_rfl) (by kernel_rfl) (fun _ _ _ h => h) hH (by rfl) ?_
            simp only [Act.put, List.setIfInBounds_toArray, List.set_cons_zero, List.set_cons_succ]
            refine held_skip (i := 9) (d := some 115) rfl rfl (by kernel_rfl) (by kernel_rfl) (by kernel_rfl) (fun _ _ _ h => h) hH (by rfl) ?_
            simp only [Act.put, List.setIfInBounds_toArray, List.set_cons_zero, List.set_cons_succ]
            refine held_skip (i := 13) (d := some 119) rfl rfl (by kernel_rfl) (by kernel_rfl) (by kernel_rfl) (fun _ _ _ h => h) hH (by rfl) ?_
            simp only [Act.put, List.setIfInBounds_toArray, List.set_cons_zero, List.set_cons_succ]
            refine held_skip (i := 14) (d := some 120) rfl rfl (by kernel_rfl) (by kernel_rfl) (by kernel_rfl) (fun _ _ _ h => h) hH (by rfl) ?_
            simp only [Act.put, List.setIfInBounds_toArray, List.set_cons_zero, List.set_cons_succ]
            refine held_take (i := 15) (v := ?_) (d := some 121) rfl rfl (by kernel_rfl) (by kernel_rfl) (by kernel_rfl) (fun _ _ _ h => h) hH ⟨by rfl, fun w hSw => ?_⟩ ?_
            rotate_left
            · obtain ⟨s0, s1, s2, s3⟩ := hSw
              (go_simp; all_goals with_reducible rfl)
            simp only [Act.put, List.setIfInBounds_toArray, List.set_cons_zero, List.set_cons_succ]
            refine wpAnyH_done (by kernel_rfl) ?_ _
            obtain ⟨x0, x1, x2, x3⟩ := four_cells HS10.out.1
            obtain ⟨g0, g1, g2, g3⟩ := four_frozen HS10.out.1
            clear hH
            go_wp2_with fail
            (try simp only [Exit.inBlock, Exit.then])
            refine bodyPost_ret (results_row3 rfl _ _ w.heap.size _ _ (0, 0) _ rfl (stored HS10.out.1) Tryd.underlying38 rfl (by kernel_rfl)) rfl ?_
            exact .inr ⟨HNG.out, rfl, HS10.out.2.2.trans (below_of_grown (stored_grown _ _ _ _ _ _) (Nat.le_refl _) HS10.out.2.2.size)⟩
end Go.Proofs.YtjmhnbohojdodaaDoor
