/-
  The reference's Encode of frames, as a row of the call's own (the walk of reffrenc_any, with more said at its end).
-/
import Derived.Test.YtjmhnbohojdodaaDoorFrame
set_option maxRecDepth 100000
namespace Go.Proofs.YtjmhnbohojdodaaDoor
open Go.RowKit
set_option maxHeartbeats 1000000 in
theorem reffrenc_row (kd sa se : Nat) (A : Option Addr) (B n c : Nat) (l : List Nat) (w : World) (hk : 1 ≤ kd ∧ kd ≤ 4) (hsa : sa < 9223372036854775808) (hse : se < 1048576) (hB : B ≤ w.heap.size) (hs : SlIs A n c) (hl : Hid (l.length = n)) (hn : n ≤ 59) (hb : Hid (Bs w B A l)) :
    Calls Tryd.prog 35 #[.int .i64 (kd : Int), .int .i64 (sa : Int), .int .i64 (se : Int), .slice A n c] w fun e w' => ∃ A3 c3, e = .returned (.slice A3 64 c3) ∧ w'.ownsRow w.heap.size 5 1 (.slice A3 64 c3) 64 (vals (Fr.enc (kd : Int) (sa : Int) (se : Int) l)) ∧ Below w.heap.size w w' := by
  obtain ⟨i0, hi0, hz0, hz1, hz2⟩ := info_parts info_u8
  have I0 := Lib.hid (And.intro hi0 (And.intro hz0 (And.intro hz1 hz2))); clear hi0 hz0 hz1 hz2
  have HO0 := Lib.hid (own_lit w [kd] 1 rfl (by decide))
  have HB0 : Hid (Below w.heap.size w (w.alloc (.cells #[.int .u8 (kd : Int)] 5))) := (Below.refl _ w).alloc (Nat.le_refl _) _
  have HX0 : Hid (Bs (w.alloc (.cells #[.int .u8 (kd : Int)] 5)) B A l) := hb.out.below HB0.out hB
  have HLT : Hid (∀ y ∈ l, y < 256) := hb.out.lt
  have HA : Hid ((A = none → n = 0 ∧ c = 0) ∧ (vals l).length = n * 1 ∧ 1 + n ≤ maxLen) := ⟨fun e => ⟨(hs.1 e).2, (hs.1 e).1⟩, by rw [vals_length, hl.out]; omega, by unfold maxLen; omega⟩
  have ek : IntKind.u8.wrap (kd : Int) = (kd : Int) := by rw [IntKind.wrap_u8]; omega
  have HBODY : Hid (Fr.body (kd : Int) l = (kd :: l) ++ List.replicate (59 - n) 0) := by
    show _ = _
    unfold Fr.body
    rw [hl.out, Int.toNat_natCast]; rfl
  have HBLT : Hid (∀ y ∈ Fr.body (kd : Int) l, y < 256) := Fr.body_lt _ _ (by omega) hb.out.lt
  have HBL : Hid ((Fr.body (kd : Int) l).length = 60) := Fr.body_length _ _ (by rw [hl.out]; exact hn)
  clear hs
  go_enter Tryd.func35, Tryd.ntmps35
  go_wp2_with (at_builtin; refine append_onto rfl (.tmp 13) (.tmp 14) 34 rfl w.heap.size 5 i0 (.int .u8 0) 1 1 Tryd.underlying34 I0.out.1 I0.out.2.1 I0.out.2.2.1 I0.out.2.2.2 rfl (by decide) _ 1 (vals [kd]) rfl HO0.out A n c (vals l) rfl HA.out.1 HA.out.2.1 (fun ad e => by have h := HX0.out; rw [e] at h; exact h.cells) (vals_one _) HA.out.2.2 (by omega) HB0.out.size ?_; intro v1 w1 hown1 hg1; rw [← vals_append] at hown1; have HO1 := Lib.hid hown1; have HB1 : Hid (Below w.heap.size w w1) := HB0.out.grown hg1 HB0.out.size (fun g e => (HO0.out.lt g e).1); clear hown1 hg1)
  go_loopw [9] (fun bv wr => ∃ (j N : Nat), j ≤ 59 - n ∧ Hid (N = 1 + n + j) ∧ slLen bv = N ∧ Hid (wr.ownsRow w.heap.size 5 1 bv N (vals ((kd :: l) ++ List.replicate j 0))) ∧ Hid (Below w.heap.size w wr)) (fun bv _ => 60 - slLen bv)
  case atStart =>
    refine ⟨0, 1 + n, Nat.zero_le _, rfl, ?_, ?_, HB1.out⟩
    · obtain ⟨A1, c1, rfl, _⟩ := own_bytes HO1.out (fun y hy => by
        rcases List.mem_append.1 hy with h | h
        · rw [List.mem_singleton.1 h]; omega
        · exact HLT.out y h)
      rfl
    · rw [List.replicate_zero, List.append_nil]; exact HO1.out
  case round =>
    obtain ⟨j, N, hj, hN, hlen, hown, hbel⟩ := hrel
    obtain ⟨A1, c1, rfl, hbs, hl1, hn1, hm1, hA1⟩ := own_bytes hown.out (fun y hy => by
      rcases List.mem_append.1 hy with h | h
      · rcases List.mem_cons.1 h with rfl | h
        · omega
        · exact HLT.out y h
      · rw [(List.mem_replicate.1 h).2]; decide)
    clear hlen
    by_cases hlt : N < 60
    · have hd : decide ((N : Int) < 60) = true := by simp; omega
      have b1 : Hid (N + 1 ≤ maxLen ∧ (N + 1) * 1 ≤ 140737488355328) := by unfold Hid maxLen; omega
      have hsz := hbel.out.size
      clear hbs hl1 hn1 hm1 hA1
      go_wp2_with (at_builtin; refine append_onto rfl (.tmp 19) (.tmp 20) 34 rfl w.heap.size 5 i0 (.int .u8 0) 1 1 Tryd.underlying34 I0.out.1 I0.out.2.1 I0.out.2.2.1 I0.out.2.2.2 rfl (by decide) _ N (vals ((kd :: l) ++ List.replicate j 0)) rfl (hown.out.alloc _) (some ⟨wr.heap.size, 0, none⟩) 1 1 (vals [0]) rfl (fun h => by cases h) rfl (fun ad e => by injection e with e; subst e; exact World.news_of_block (heap_alloc_new wr _)) (vals_one _) b1.out.1 b1.out.2 (by simp; omega) ?_; intro v2 w2 hown2 hg2; rw [← vals_append, rep_snoc] at hown2)
      have HO2 := Lib.hid hown2
      clear hown2
      have hL2 : slLen v2 = N + 1 := by
        obtain ⟨A2, c2, rfl, _⟩ := own_bytes HO2.out (fun y hy => by
          rcases List.mem_append.1 hy with h | h
          · rcases List.mem_cons.1 h with rfl | h
            · omega
            · exact HLT.out y h
          · rw [(List.mem_replicate.1 h).2]; decide)
        rfl
      go_roundw
      case rel =>
        refine ⟨j + 1, N + 1, ?_, ?_, ?_, HO2, (hbel.out.alloc hsz _).grown hg2 (by simp; omega) (fun g e => (hown.out.lt g e).1)⟩
        · have := hN.out; omega
        · show _ = _
          have := hN.out; omega
        · exact hL2
      case measure =>
        rw [hL2]
        simp only [slLen]
        omega
    · have hd : decide ((N : Int) < 60) = false := by simp; omega
      obtain rfl : j = 59 - n := by have := hN.out; omega
      obtain rfl : N = 60 := by have := hN.out; omega
      have HO := hown
      rw [← HBODY.out] at HO hbs hl1
      have HL1 := Lib.hid hl1
      have HS1 : Hid (Bs wr wr.heap.size A1 (Fr.body (kd : Int) l)) := hbs
      have HSL : Hid (SlIs A1 60 c1) := sl_own hn1 hm1 hA1
      have HE : Hid (Fr.enc (kd : Int) (sa : Int) (se : Int) l = Fr.body (kd : Int) l ++ Wire.be 4 (Crc.U (Crc.upd 0#32 (Rc.spot (sa : Int) (se : Int) ++ Fr.body (kd : Int) l)))) := rfl
      have hU := Crc.U_lt (Crc.upd 0#32 (Rc.spot (sa : Int) (se : Int) ++ Fr.body (kd : Int) l))
      have HSP : Hid (Rc.spot (sa : Int) (se : Int) = ([] ++ Wire.be 8 sa) ++ Wire.be 4 se) := Fr.spot_eq _ _
      clear hown hbs hl1 hn1 hm1 hA1 HO0 HX0 HB0 HO1 HB1 hN HBODY ek
      generalize Fr.body (kd : Int) l = bd at *
      have HP1 := Lib.hid (refput_row none 0 0 0 [] sa 8 8 rfl wr sl_nil rfl (by decide) (bs_nil _ _) (by decide) (by decide))
      go_wp2_with fail
      refine HP1.out.mono ?_
      rintro e w2 ⟨A2, n2, c2, p2, rfl, hp2, hn2, hr2⟩
      have HR2 := Lib.hid hr2
      have h8 : n2 = 8 := hn2.out
      subst h8
      clear hr2
      go_wp2_with fail
      refine (refput_row A2 w2.heap.size 8 c2 p2 se 4 4 rfl w2 HR2.out.2.2.1 HR2.out.2.1 (by decide) HR2.out.2.2.2.1 (by decide) (by decide)).mono ?_
      rintro e w3 ⟨A3, n3, c3, p3, rfl, hp3, hn3, hr3⟩
      have HR3 := Lib.hid hr3
      have h12 : n3 = 12 := hn3.out
      subst h12
      clear hr3
      have HP3 : Hid (p3 = Rc.spot (sa : Int) (se : Int)) := by
        show _ = _
        rw [HSP.out, hp3.out, hp2.out]
      have HB3 : Hid (Below wr.heap.size wr w3) := HR2.out.2.2.2.2.trans (HR3.out.2.2.2.2.mono HR2.out.2.2.2.2.size)
      have HS3 : Hid (Bs w3 wr.heap.size A1 bd) := HS1.out.below HB3.out (Nat.le_refl _)
      have HAP : Hid ((A1 = none → 60 = 0 ∧ c1 = 0) ∧ (vals bd).length = 60 * 1) := ⟨fun e => ⟨by have := (HSL.out.1 e).2; omega, (HSL.out.1 e).1⟩, by rw [vals_length, HL1.out]⟩
      rw [← HP3.out] at HE hU
      clear hp2 hp3 hn2 hn3 HSP HP1
      go_wp2_with (at_builtin; refine append_onto rfl (.tmp 29) (.tmp 30) 34 rfl w2.heap.size 5 i0 (.int .u8 0) 1 1 Tryd.underlying34 I0.out.1 I0.out.2.1 I0.out.2.2.1 I0.out.2.2.2 rfl (by decide) _ 12 (vals p3) rfl HR3.out.1 A1 60 c1 (vals bd) rfl HAP.out.1 HAP.out.2 (fun ad e => by have h := HS3.out; rw [e] at h; exact h.cells) (vals_one _) (by decide) (by decide) HR3.out.2.2.2.2.size ?_; intro v4 w4 hown4 hg4; rw [← vals_append] at hown4; have HO4 := Lib.hid hown4; have HB4 : Hid (Below w2.heap.size w3 w4) := (Below.refl _ _).grown hg4 HR3.out.2.2.2.2.size (fun g e => (HR3.out.1.lt g e).1); clear hown4 hg4; obtain ⟨A4, c4, rfl, hbs4, hl4, hn4, hm4, ho4⟩ := own_bytes HO4.out (fun y hy => by (rcases List.mem_append.1 hy with h | h; exact HR3.out.2.2.2.1.lt y h; exact HBLT.out y h)); have HS4 := Lib.hid (And.intro hl4 hbs4); clear hl4 hbs4 hn4 hm4 ho4)
      refine (refsum_any A4 w4.heap.size c4 72 (p3 ++ bd) w4 HS4.out.1 (by decide) HS4.out.2).mono ?_
      rintro e w' ⟨rfl, rfl⟩
      have HBX : Hid (Below wr.heap.size wr w4) := HR2.out.2.2.2.2.trans ((HR3.out.2.2.2.2.trans HB4.out).mono HR2.out.2.2.2.2.size)
      generalize Crc.U (Crc.upd 0#32 (p3 ++ bd)) = q at *
      have HPT := Lib.hid (refput_row A1 wr.heap.size 60 c1 bd q 4 4 rfl w4 HSL.out HL1.out (by decide) (HS1.out.below HBX.out (Nat.le_refl _)) (by decide) (by decide))
      go_wp2_with fail
      refine HPT.out.mono ?_
      rintro e w5 ⟨A5, n5, c5, p5, rfl, hp5, hn5, hr5⟩
      have h64 : n5 = 64 := hn5.out
      subst h64
      have HR5 := Lib.hid hr5
      clear hr5
      go_wp2
      go_ret
      have HF : Fr.enc (kd : Int) (sa : Int) (se : Int) l = p5 := by rw [HE.out, ← hp5.out]
      rw [HF]
      exact ⟨A5, c5, rfl, ownsRow_mono HR5.out.1 (Nat.le_trans hbel.out.size HBX.out.size), hbel.out.trans ((HBX.out.trans (HR5.out.2.2.2.2.mono HBX.out.size)).mono hbel.out.size)⟩
end Go.Proofs.YtjmhnbohojdodaaDoor
