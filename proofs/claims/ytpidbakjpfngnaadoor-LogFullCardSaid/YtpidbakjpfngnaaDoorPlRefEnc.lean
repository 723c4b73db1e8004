/-
  The walks of the reference's Layout and of its Encode of plan records.
-/
import Derived.Test.YtpidbakjpfngnaaDoorSbRefEncs
import Derived.Test.YtpidbakjpfngnaaDoorPlRefValid
import Derived.Deep.RegionHeld3
import Derived.Deep.AppendLies
set_option maxRecDepth 100000
namespace Go.Proofs.YtpidbakjpfngnaaDoor
open Go.RowKit
theorem own_stays {w w' : World} {base n : Nat} {v : Value} {l : List Nat} {e : TypeId} (h : w.ownsRow base e 1 v n (vals l)) (hb : Below w.heap.size w w') : w'.ownsRow base e 1 v n (vals l) := by
  refine ⟨h.1, ?_⟩
  rcases h.2 with h0 | ⟨g, cap, cur, h1, h2, h3, h4⟩
  · exact .inl h0
  · exact .inr ⟨g, cap, cur, h1, h2, box_next h3 hb rfl, h4⟩
theorem reflayout_any (a b c d : Int) (w : World) (hw : Sb.form ⟨a, b, c, d⟩) :
    Calls Tryd.prog 33 #[.agg #[.int .i64 a, .int .i64 b, .int .i64 c, .int .i64 d]] w (DidLay w [] 0 ⟨a, b, c, d⟩) := by
  have C : Hid (∀ W, Calls Tryd.prog 48 #[.slice none 0 0, .agg #[.int .i64 a, .int .i64 b, .int .i64 c, .int .i64 d]] W (DidLay W [] 0 ⟨a, b, c, d⟩)) := fun W => refputlay_any none 0 0 0 [] a b c d W (Nat.zero_le _) sl_nil rfl (by decide) (bs_nil _ _) (.inl hw)
  clear hw
  have HS0 := Lib.hid (sd_new w #[.int .i64 a, .int .i64 b, .int .i64 c, .int .i64 d] 32)
  unfold DidLay at C ⊢
  go_enter Tryd.func33, Tryd.ntmps33
  go_wp2_with fail
  generalize w.alloc (.cells #[.int .i64 a, .int .i64 b, .int .i64 c, .int .i64 d] 32) = w0 at *
  refine (C.out _).mono ?_
  rintro e w1 ⟨A1, n1, c1, p1, rfl, hp1, hn1, hr1⟩
  have HS1 := Lib.hid (HS0.out.next hr1.2.2.2.2 (by rfl) (by rfl) (by rfl) (by rfl))
  have HR1 := Lib.hid hr1
  clear hr1
  go_wp2
  go_ret
  exact ⟨A1, n1, c1, p1, rfl, hp1, hn1, ownsRow_mono HR1.out.1 HS0.out.2.size, HR1.out.2.1, HR1.out.2.2.1, HR1.out.2.2.2.1, HS1.out.2⟩
theorem sd_two_three {w W : World} {g : Nat} {z0 z1 z2 z3 z4 z5 z6 z7 : Value} {t : TypeId} (h : Sd w g (.cells #[z0, z1, z2, z3, z4, z5, z6, z7] t (0, 0)) W) : W.cell? ⟨g, 2, none⟩ = some z2 ∧ W.cell? ⟨g, 3, none⟩ = some z3 := by
  obtain ⟨-, -, c2, c3, -⟩ := eight_cells h.1
  exact ⟨c2, c3⟩
set_option maxHeartbeats 4000000 in
theorem refplenc_nat (k m i t x : Nat) (a b c d : Int) (w : World) (q0 : k ≤ 2) (q1 : m ≤ 4294967295) (q2 : i ≤ 35) (q3 : t ≤ 281474976710655) (hf : Sb.form ⟨a, b, c, d⟩) (hx : x < 1048576) :
    Calls Tryd.prog 14 #[.agg #[.int .i64 (k : Int), .int .i64 (m : Int), .int .i64 (i : Int), .int .i64 (t : Int), .int .i64 a, .int .i64 b, .int .i64 c, .int .i64 d], .int .i64 (x : Int)] w fun r w' => ∃ A3 c3, r = .returned (.slice A3 64 c3) ∧ SlIs A3 64 c3 ∧ Bs w' w'.heap.size A3 (Pl.enc (x : Int) ⟨(k : Int), (m : Int), (i : Int), (t : Int), ⟨a, b, c, d⟩⟩) ∧ Below w.heap.size w w' := by
  have HBD : Hid (Pl.body ⟨(k : Int), (m : Int), (i : Int), (t : Int), ⟨a, b, c, d⟩⟩ = (((([k] ++ Wire.be 4 m) ++ [i]) ++ Wire.be 6 t) ++ Sb.lay ⟨a, b, c, d⟩)) := by
    show _ = _
    unfold Pl.body
    simp only [Int.toNat_natCast]
    rw [be1 k (by omega), be1 i (by omega)]
    simp only [List.append_assoc]
  have HEN : Hid (Pl.enc (x : Int) ⟨(k : Int), (m : Int), (i : Int), (t : Int), ⟨a, b, c, d⟩⟩ = Fr.enc 4 0 (x : Int) (Pl.body ⟨(k : Int), (m : Int), (i : Int), (t : Int), ⟨a, b, c, d⟩⟩)) := rfl
  generalize Pl.enc (x : Int) ⟨(k : Int), (m : Int), (i : Int), (t : Int), ⟨a, b, c, d⟩⟩ = en at *
  generalize Pl.body ⟨(k : Int), (m : Int), (i : Int), (t : Int), ⟨a, b, c, d⟩⟩ = bd at *
  rw [HEN.out]
  clear HEN
  have CL := Lib.hid (fun W => reflayout_any a b c d W hf)
  unfold DidLay at CL
  have HYL : Hid (∀ y ∈ Sb.lay ⟨a, b, c, d⟩, y < 256) := Sb.lay_lt _
  have HLL : Hid ((Sb.lay ⟨a, b, c, d⟩).length = 7) := Sb.lay_length _
  have HRE : Hid (∀ A' n' c' W, RowAt W bd n' A' c' → n' ≤ 59 → Calls Tryd.prog 32 #[.int .i64 4, .int .i64 0, .int .i64 (x : Int), .slice A' n' c'] W fun r w' => ∃ A3 c3, r = .returned (.slice A3 64 c3) ∧ SlIs A3 64 c3 ∧ Bs w' w'.heap.size A3 (Fr.enc 4 0 (x : Int) bd) ∧ Below W.heap.size W w') := fun A' n' c' W hr hn' =>
    reffrenc_any 4 0 x A' W.heap.size n' c' bd W (by decide) (by decide) hx (Nat.le_refl _) hr.1 hr.2.1 hn' hr.2.2
  generalize Sb.lay ⟨a, b, c, d⟩ = ly at *
  have e0 : IntKind.u8.wrap (k : Int) = (k : Int) := by rw [IntKind.wrap_u8]; omega
  have e2 : IntKind.u8.wrap (i : Int) = (i : Int) := by rw [IntKind.wrap_u8]; omega
  have e3 : IntKind.u64.wrap (t : Int) = (t : Int) := by rw [IntKind.wrap_u64]; omega
  have HQ : Hid (k < 256 ∧ i < 256) := ⟨by omega, by omega⟩
  have HMX : Hid ((5 + 1 ≤ maxLen ∧ (5 + 1) * 1 ≤ 140737488355328)) := by
    show _ ∧ _
    unfold maxLen
    omega
  have HMY : Hid ((12 + 7 ≤ maxLen ∧ (12 + 7) * 1 ≤ 140737488355328)) := by
    show _ ∧ _
    unfold maxLen
    omega
  have HS0 := Lib.hid (sd_new w #[.int .i64 (k : Int), .int .i64 (m : Int), .int .i64 (i : Int), .int .i64 (t : Int), .int .i64 a, .int .i64 b, .int .i64 c, .int .i64 d] 34)
  have HLT0 : Hid (w.heap.size < (w.alloc (.cells #[.int .i64 (k : Int), .int .i64 (m : Int), .int .i64 (i : Int), .int .i64 (t : Int), .int .i64 a, .int .i64 b, .int .i64 c, .int .i64 d] 34)).heap.size) := by show _ < _; simp
  obtain ⟨i0, hi0, hz0, hz1, hz2⟩ := info_parts info_u8
  have I0 := Lib.hid (And.intro hi0 (And.intro hz0 (And.intro hz1 hz2)))
  clear hi0 hz0 hz1 hz2 hf hx
  go_enter Tryd.func14, Tryd.ntmps14
  go_upto_region 1 with fail
  generalize w.alloc (.cells #[.int .i64 (k : Int), .int .i64 (m : Int), .int .i64 (i : Int), .int .i64 (t : Int), .int .i64 a, .int .i64 b, .int .i64 c, .int .i64 d] 34) = w0 at *
  obtain ⟨z0, z1, z2, z3, z4, z5, z6, z7⟩ := eight_cells HS0.out.1
  have HK : Hid (Sd w w.heap.size _ (w0.alloc (.cells #[.int .u8 (k : Int)] 5))) := HS0.out.made _
  have HBK : Hid (Bs (w0.alloc (.cells #[.int .u8 (k : Int)] 5)) (w0.alloc (.cells #[.int .u8 (k : Int)] 5)).heap.size (some ⟨w0.heap.size, 0, none⟩) [k]) := (bs_lit w0 [k] (fun y hy => by rw [List.mem_singleton.1 hy]; exact HQ.out.1) (0, 0)).more (by simp)
  obtain ⟨y0, y1, y2, y3, y4, y5, y6, y7⟩ := eight_cells HK.out.1
  go_wp2_with fail
  clear y0 y1 y2 y3 y4 y5 y6 y7
  generalize w0.alloc (.cells #[.int .u8 (k : Int)] 5) = w9 at *
  refine (refput_row (some ⟨w0.heap.size, 0, none⟩) w9.heap.size 1 1 [k] m 4 4 rfl w9 ⟨(fun e => by cases e), Nat.le_refl _, by decide⟩ rfl (by decide) HBK.out (by decide) (by decide)).mono ?_
  rintro e w1 ⟨A1, n1, c1, p1, rfl, hp1, hn1, hr1⟩
  have k1 : n1 = 5 := hn1.out
  subst k1
  have HS1 := Lib.hid (HK.out.next hr1.2.2.2.2 (by rfl) (by rfl) (by rfl) (by rfl))
  have HLT9 : Hid (w.heap.size < w9.heap.size) := HK.out.lt
  have HR1 := Lib.hid hr1
  have HZ1 : Hid (w9.heap.size ≤ (w1.alloc (.cells #[.int .u8 (i : Int)] 5)).heap.size) := Nat.le_trans hr1.2.2.2.2.size (by simp)
  have HOA1 : Hid ((w1.alloc (.cells #[.int .u8 (i : Int)] 5)).drew.ownsRow w9.heap.size 5 1 (.slice A1 5 c1) 5 (vals p1)) := hr1.1.alloc _
  have HNW1 : Hid (∀ ad, some (⟨w1.heap.size, 0, none⟩ : Addr) = some ad → ∀ j u, (vals [i])[j]? = some u → (w1.alloc (.cells #[.int .u8 (i : Int)] 5)).drew.cell? (ad.add j) = some u) := fun ad e => by injection e with e; subst e; exact World.news_of_block (heap_alloc_new w1 _)
  have HSA1 : Hid (Sd w w.heap.size _ (w1.alloc (.cells #[.int .u8 (i : Int)] 5)).drew) := ⟨(HS1.out.made _).1, (HS1.out.made _).2.drew⟩
  have HL1 := Lib.hid (lt_snoc (p := p1) hr1.2.2.2.1.lt HQ.out.2)
  clear hr1 z0 z1 z2 z3 z4 z5 z6 z7
  obtain ⟨z0, z1, z2, z3, z4, z5, z6, z7⟩ := eight_cells HS1.out.1
  go_upto_region 2 with fail
  go_region_held3 (fun W => W.cell? ⟨w.heap.size, 2, none⟩ = some (.int .i64 (i : Int)) ∧ W.cell? ⟨w.heap.size, 3, none⟩ = some (.int .i64 (t : Int)))
    (first
      | (have hh := HS3.out; with_reducible exact sd_two_three hh)
      | (have hh := HS2.out; with_reducible exact sd_two_three hh)
      | go_keep)
    (first
      | (refine step_append_onto rfl (.tmp 14) (.tmp 18) 28 rfl w9.heap.size 5 i0 (.int .u8 0) 1 1 Tryd.underlying28 I0.out.1 I0.out.2.1 I0.out.2.2.1 I0.out.2.2.2 rfl (by decide) _ 5 (vals p1) rfl HOA1.out (some ⟨w1.heap.size, 0, none⟩) 1 1 (vals [i]) rfl (fun e => by cases e) rfl HNW1.out (vals_one _) HMX.out.1 HMX.out.2 HZ1.out ?_; intro v2 w2 hown2 hb2; rw [← vals_append] at hown2; obtain ⟨A2, c2, rfl, hra2⟩ := row_own hown2 HL1.out; have HR2 := Lib.hid hra2; have HS2 := Lib.hid (HSA1.out.past hb2 HLT9.out); clear hown2 hb2 hra2)
      | (go_at_call 31; refine (refput_row A2 w2.heap.size 6 c2 (p1 ++ [i]) t 6 6 rfl w2 HR2.out.1 HR2.out.2.1 (by decide) HR2.out.2.2 (by decide) (by decide)).mono ?_; rintro e w3 ⟨A3, n3, c3, p3, rfl, hp3, hn3, hr3⟩; have k3 : n3 = 12 := hn3.out; subst k3; have HL2 := Lib.hid (Sd.lt HS2.out); have HS3 := Lib.hid (HS2.out.next hr3.2.2.2.2 (by rfl) (by rfl) (by rfl) (by rfl)); have HR3 := Lib.hid hr3; clear hr3))
  clear z0 z1 z2 z3 z4 z5 z6 z7 HOA1 HNW1 HSA1 HZ1 HL1 HR1 HR2 HS1 HS2
  obtain ⟨z0, z1, z2, z3, z4, z5, z6, z7⟩ := eight_cells HS3.out.1
  have HLT2 : Hid (w.heap.size < w2.heap.size) := HL2.out
  have HL5 : Hid (∀ y ∈ p3 ++ ly, y < 256) := fun y hy => by
    rcases List.mem_append.1 hy with h | h
    · exact HR3.out.2.2.2.1.lt y h
    · exact HYL.out y h
  go_upto_region 3 with fail
  go_wp2_with (first
    | (go_at_call 33; refine (CL.out _).mono ?_; rintro e w4 ⟨A4, n4, c4, p4, rfl, hp4, hn4, hr4⟩; have k4 : n4 = 7 := hn4.out; subst k4; rw [List.nil_append] at hp4; have k5 : p4 = ly := hp4.out; subst k5; have HS4 := Lib.hid (HS3.out.next hr4.2.2.2.2 (by rfl) (by rfl) (by rfl) (by rfl)); have HO4 := Lib.hid (own_stays HR3.out.1 hr4.2.2.2.2); have HZ4 : Hid (w2.heap.size ≤ w4.heap.size) := Nat.le_trans HR3.out.2.2.2.2.size hr4.2.2.2.2.size; have HN4 : Hid (A4 = none → 7 = 0 ∧ c4 = 0) := (fun e => by have := hr4.2.2.1.1 e; exact ⟨this.2, this.1⟩); have HC4 : Hid (∀ ad, A4 = some ad → ∀ j u, (vals p4)[j]? = some u → w4.cell? (ad.add j) = some u) := (fun ad e => by subst e; exact hr4.2.2.2.1.cells); have HT4 := Lib.hid hr4.2.2.2.1.lt; clear hr4)
    | (at_builtin; revert HO4; intro HO4; refine append_onto rfl (.tmp 25) (.tmp 28) 28 rfl w2.heap.size 5 i0 (.int .u8 0) 1 1 Tryd.underlying28 I0.out.1 I0.out.2.1 I0.out.2.2.1 I0.out.2.2.2 rfl (by decide) _ 12 (vals p3) rfl HO4.out A4 7 c4 (vals p4) rfl HN4.out (by rw [vals_length, HLL.out]) HC4.out (vals_one _) HMY.out.1 HMY.out.2 HZ4.out ?_; intro v5 w5 hown5 hg5; rw [← vals_append] at hown5; have hb5 : Below w2.heap.size w4 w5 := ((Below.refl _ _).grown hg5 HZ4.out (fun g e => (HO4.out.lt g e).1)); obtain ⟨A5, c5, rfl, hra5⟩ := row_own hown5 HL5.out; have HS5 := Lib.hid (HS4.out.past hb5 HLT2.out); have hpb : p3 ++ p4 = bd := (by rw [HBD.out, hp3.out, hp1.out]); rw [hpb] at hra5; have HE5 := Lib.hid (HRE.out A5 19 c5 w5 hra5 (by decide)); clear hown5 hg5 hb5 hra5 hpb)
    | (go_at_call 32; refine HE5.out.mono ?_; rintro e w6 ⟨A6, c6, rfl, hs6, hb6, hl6⟩; have HS6 := Lib.hid (HS5.out.next hl6 (by rfl) (by rfl) (by rfl) (by rfl)); have HB6 := Lib.hid (And.intro hs6 hb6); clear hs6 hb6 hl6))
  go_ret
  exact ⟨A6, c6, rfl, HB6.out.1, HB6.out.2, HS6.out.2⟩
theorem refplenc_any (k m i t a b c d x : Int) (w : World) (hv : Pl.valid ⟨k, m, i, t, ⟨a, b, c, d⟩⟩) (hx : 0 ≤ x ∧ x < 1048576) :
    Calls Tryd.prog 14 #[.agg #[.int .i64 k, .int .i64 m, .int .i64 i, .int .i64 t, .int .i64 a, .int .i64 b, .int .i64 c, .int .i64 d], .int .i64 x] w fun r w' => ∃ A3 c3, r = .returned (.slice A3 64 c3) ∧ SlIs A3 64 c3 ∧ Bs w' w'.heap.size A3 (Pl.enc x ⟨k, m, i, t, ⟨a, b, c, d⟩⟩) ∧ Below w.heap.size w w' := by
  obtain ⟨h1, h2, h3, h4⟩ := hv
  simp only at h1 h2 h4
  obtain ⟨k, rfl⟩ := Int.eq_ofNat_of_zero_le (show 0 ≤ k by omega)
  obtain ⟨m, rfl⟩ := Int.eq_ofNat_of_zero_le (show 0 ≤ m by omega)
  obtain ⟨i, rfl⟩ := Int.eq_ofNat_of_zero_le (show 0 ≤ i by omega)
  obtain ⟨t, rfl⟩ := Int.eq_ofNat_of_zero_le (show 0 ≤ t by omega)
  obtain ⟨x, rfl⟩ := Int.eq_ofNat_of_zero_le hx.1
  exact refplenc_nat k m i t x a b c d w (by omega) (by omega) (by omega) (by omega) h3 (by omega)
end Go.Proofs.YtpidbakjpfngnaaDoor
