/-
  The walk of the statement on calls beside a list of pairs.
-/
import Derived.Test.YtflnjippknpflaaTbScript
import Derived.Test.YtflnjippknpflaaTbLawWork
import Derived.Test.YtflnjippknpflaaHold
import Derived.BigQuiet
set_option maxRecDepth 100000
namespace Go.Proofs.Ytflnjippknpflaa
open Go.RowKit
set_option maxHeartbeats 8000000 in
theorem tablescript_any (A : Option Addr) (n cap : Nat) (l : List TOp) (w : World) (hs : SlIs A n cap) (hl : Hid (l.length = n)) (hb : Hid (Arr opS w 0 w.heap.size A l)) :
    Calls Try.prog 3 #[.slice A n cap] w fun e w' => e = .returned (.bool true) ∧ Below w.heap.size w w' := by
  have hcap := hs.2.2
  have hnc := hs.2.1
  have CN := Lib.hid (tnew_any 121 w.heap.size w (Nat.le_refl _))
  obtain ⟨B, hB⟩ : ∃ B, w.heap.size = B := ⟨_, rfl⟩
  obtain ⟨q, hq⟩ : ∃ q, w.heap.size = q := ⟨_, rfl⟩
  rw [hB] at hb
  have HB := Lib.hid hB
  have CN : Hid (Calls Try.prog 8 #[] w fun e w' => e = .returned (.pointer (some ⟨q, 0, none⟩)) ∧ Below B w w' ∧ (∀ k, k = q → B ≤ k ∧ k < w'.heap.size) ∧ Tab 121 w' (fun k => k = q) q (fun _ _ => False) 0 0) := by
    have := CN.out
    rw [hB] at this
    rw [← hq, hB]
    exact this
  rw [hB]
  clear hB hq
  have HZ : Hid (∀ W, Below B w W → B ≤ W.heap.size) := fun W h => HB.out ▸ h.size
  have HM1 : Hid (∀ W W', Below B w W → Below W.heap.size W W' → Below B w W') := fun W W' h h' => h.trans (h'.mono (HZ.out W h))
  go_enter Try.func3, Try.ntmps3
  go_wp2_with fail
  refine CN.out.mono ?_
  rintro e w1 ⟨rfl, hb1, hS1, hT1⟩
  have HL2 : Hid (Below w1.heap.size w1 (w1.alloc (.cells #[.slice none 0 0] 28))) := (Below.refl _ _).alloc (Nat.le_refl _) _
  have HX2 := Lib.hid (heap_alloc_new w1 (.cells #[.slice none 0 0] 28))
  have HB2 := Lib.hid (HM1.out _ _ hb1 HL2.out)
  have HS2 : Hid (SSt B (w1.alloc (.cells #[.slice none 0 0] 28)) q w1.heap.size (fun k => k = q) (fun k => k = w1.heap.size) (fun _ _ => False) 0 0 []) :=
    ⟨fun k h => ⟨(hS1 k h).1, Nat.lt_of_lt_of_le (hS1 k h).2 HL2.out.size⟩, fun k h => ⟨by rw [h]; exact HZ.out _ hb1, by rw [h]; exact (Array.getElem?_eq_some_iff.1 HX2.out).1⟩, fun k h h' => Nat.lt_irrefl _ (h' ▸ (hS1 k h).2), hT1.next HL2.out, ⟨_, rfl, HX2.out, SRow.nil⟩⟩
  clear hb1 hS1 hT1 HL2 HX2 CN
  go_upto_region 2 with fail
  generalize w1.alloc (.cells #[.slice none 0 0] 28) = w2 at *
  generalize w1.heap.size = m at *
  go_wp2_with fail
  go_loopw [5] (fun iv wr => ∃ k : Nat, k ≤ n ∧ k ≤ 80 ∧ iv = .int .i64 (k : Int) ∧ Hid (∃ S R H c wk L, SSt B wr q m S R H c wk L ∧ SAg H c L k) ∧ Hid (Below B w wr)) (fun i _ => n - (Go.RowKit.intOf i).toNat)
  case atStart => exact ⟨0, Nat.zero_le _, Nat.zero_le _, rfl, ⟨_, _, _, 0, 0, [], HS2.out, List.Pairwise.nil, fun _ _ => ⟨fun h => absurd h (List.not_mem_nil), False.elim⟩, rfl, Nat.le_refl _, fun _ _ h => h.elim⟩, HB2.out⟩
  case round =>
    clear HS2 HB2
    obtain ⟨k, hk, hk2, rfl, hstt, hbel⟩ := hrel
    obtain ⟨S, R, H, c, wk, L, hst, hag⟩ := hstt.out
    have hst := Lib.hid hst
    have HAG := Lib.hid hag
    clear hstt hag
    by_cases hlt : k < n ∧ k < 80
    · obtain ⟨hlt, hlt2⟩ := hlt
      have hd0 : decide ((k : Int) < 80) = true := decide_eq_true (by omega)
      obtain ⟨ad, rfl⟩ := hb.out.some (k := k) (by rw [hl.out]; exact hlt)
      obtain ⟨⟨kd, ky, ⟨o0, o1, o2, o3, o4⟩⟩, HX⟩ : ∃ p, Hid (l.getD k opS.z = p) := ⟨_, rfl⟩
      obtain ⟨m0, m1, m2, m3, m4, m5, m6⟩ := ops_at (hb.out.below hbel.out (Nat.le_refl _)) k (by rw [hl.out]; exact hlt) _ HX.out
      simp only at m0 m1 m2 m3 m4 m5 m6
      clear HX
      go_wp2_with fail
      have HL0 : Hid (Below wr.heap.size wr (wr.alloc (.cells #[.int .i64 kd, .int .i64 ky, .int .i64 o0, .int .i64 o1, .int .i64 o2, .int .i64 o3, .bool o4] 32))) := (Below.refl _ _).alloc (Nat.le_refl _) _
      have HX0 := Lib.hid (heap_alloc_new wr (.cells #[.int .i64 kd, .int .i64 ky, .int .i64 o0, .int .i64 o1, .int .i64 o2, .int .i64 o3, .bool o4] 32))
      have HB0 := Lib.hid (HM1.out _ _ hbel.out HL0.out)
      have HO0 : Hid (Ob (wr.alloc (.cells #[.int .i64 kd, .int .i64 ky, .int .i64 o0, .int .i64 o1, .int .i64 o2, .int .i64 o3, .bool o4] 32)) S R wr.heap.size (.cells #[.int .i64 kd, .int .i64 ky, .int .i64 o0, .int .i64 o1, .int .i64 o2, .int .i64 o3, .bool o4] 32 (0, 0))) := ⟨HX0.out, fun h => Nat.lt_irrefl _ (hst.out.s _ h).2, fun h => Nat.lt_irrefl _ (hst.out.r _ h).2⟩
      have HS0 := Lib.hid (hst.out.next HL0.out)
      clear HL0 HX0 hst hbel m0 m1 m2 m3 m4 m5 m6
      generalize wr.alloc (.cells #[.int .i64 kd, .int .i64 ky, .int .i64 o0, .int .i64 o1, .int .i64 o2, .int .i64 o3, .bool o4] 32) = w1 at *
      generalize wr.heap.size = ob at *
      refine (name_any ky w1).mono ?_
      rintro e w2 ⟨mm, hmm, -, rfl, hb2⟩
      have HB2 := Lib.hid (HM1.out _ _ HB0.out hb2)
      have HO2 := Lib.hid (HO0.out.next hb2)
      have HS2 := Lib.hid (HS0.out.next hb2)
      have HQ2 := Lib.hid (HZ.out _ HB2.out)
      clear hb2 HB0 HO0 HS0
      obtain ⟨x0, x1, x2, x3, x4, x5, x6⟩ := seven_cells HO2.out.1
      have hle := HAG.out.le
      rcases (show kd = 0 ∨ kd = 1 ∨ (kd ≠ 0 ∧ kd ≠ 1) by omega) with h0 | h0 | ⟨h0, h1⟩
      · subst h0
        go_wp2_with fail
        refine (tset_any 121 B q c wk (nm mm) o0 o1 o2 o3 o4 H S w2 HQ2.out (by decide) (nm_size mm) (by omega) HS2.out.s HS2.out.t).mono ?_
        rintro e w3 ⟨rfl, S3, c3, wk3, hn3, hcc3, hT3, -⟩
        have HS3 := Lib.hid (HS2.out.tab hn3 hT3)
        have HO3 := Lib.hid (HO2.out.tab hn3)
        have HB3 := Lib.hid (HB2.out.trans hn3.below)
        have HC3 := Lib.hid hcc3
        clear hn3 hT3 hcc3 HS2 HO2 HB2 HQ2 x0 x1 x2 x3 x4 x5 x6
        have HQ3 := Lib.hid (HZ.out _ HB3.out)
        obtain ⟨x0, x1, x2, x3, x4, x5, x6⟩ := seven_cells HO3.out.1
        go_wp2_with fail
        refine (refset_any m (nm mm) o0 o1 o2 o3 o4 L R w3 (by rw [HAG.out.len]; omega) HAG.out.srt HS3.out.f).mono ?_
        rintro e w4 ⟨rfl, hk4, L4, hf4, hs4, hl4, hm4⟩
        have HS4 := Lib.hid (HS3.out.ref HQ3.out hk4 hf4)
        have HB4 := Lib.hid (HB3.out.trans (HS3.out.below HQ3.out hk4))
        have HA4 := Lib.hid (HAG.out.set (nm_size mm) HC3.out hs4 hl4 hm4)
        clear hk4 hf4 hs4 hl4 hm4 HS3 HO3 HB3 HC3 HQ3 HAG x0 x1 x2 x3 x4 x5 x6
        generalize Since R w3 w4 = R4 at *
        have hc3 := HA4.out.le
        have HTN : ∀ N, Hid (Tab 121 (w4.drewN N) S3 q _ c3 wk3) := fun N => HS4.out.t.next (below_drewN w4 N)
        have HSN : ∀ N, Hid (SSt B (w4.drewN N) q m S3 R4 _ c3 wk3 L4) := fun N => HS4.out.next (below_drewN w4 N)
        have HBN : ∀ N, Hid (Below B w (w4.drewN N)) := fun N => below_drawn HB4.out N
        obtain ⟨Av, cv, -, hmv, -, -, -, -⟩ := HS4.out.f.open_
        rw [HA4.out.len] at hmv
        have c0 := box_cell hmv
        clear hmv
        have hcc : ((c3 : Int) == (c3 : Int)) = true := beq_self_eq_true _
        have hcc2 : (c3 == c3) = true := beq_self_eq_true _
        go_upto_region 18 with fail
        go_quiet (first | (go_at_call 16; refine Calls.quiet_of_same ((tlen_any 121 q c3 wk3 _ S3 _ (HTN _).out).mono fun _ _ h => ⟨h.1, h.2.symm⟩)))
        go_wp2_with fail
        go_roundw
        case rel => exact ⟨k + 1, by omega, by omega, by go_num, ⟨_, _, _, _, _, _, (HSN _).out, HA4.out⟩, HBN _⟩
        case measure => simp [Go.RowKit.intOf]; omega
      · subst h0
        go_wp2_with fail
        refine (tget_any 121 B q c wk (nm mm) H S w2 HQ2.out (by decide) (nm_size mm) HS2.out.s HS2.out.t).mono ?_
        rintro e w3 ⟨a0, a1, a2, a3, a4, y, rfl, hy, hn3, wk3, hT3, -⟩
        have hone := Lib.hid (fun x x' (h : H (nm mm) x) (h' : H (nm mm) x') => Tab.one hT3 h h')
        have HS3 := Lib.hid (HS2.out.tab hn3 hT3)
        have HB3 := Lib.hid (HB2.out.trans hn3.below)
        have HY := Lib.hid hy
        clear hn3 hT3 hy HS2 HO2 HB2 HQ2 x0 x1 x2 x3 x4 x5 x6
        have HL4 : Hid (Below w3.heap.size w3 (w3.alloc (.cells #[.int .i64 a0, .int .i64 a1, .int .i64 a2, .int .i64 a3, .bool a4] 30))) := (Below.refl _ _).alloc (Nat.le_refl _) _
        have HX4 := Lib.hid (heap_alloc_new w3 (.cells #[.int .i64 a0, .int .i64 a1, .int .i64 a2, .int .i64 a3, .bool a4] 30))
        have HB4 := Lib.hid (HM1.out _ _ HB3.out HL4.out)
        have HS4 := Lib.hid (HS3.out.next HL4.out)
        clear HL4 HS3 HB3
        go_wp2_with fail
        generalize w3.alloc (.cells #[.int .i64 a0, .int .i64 a1, .int .i64 a2, .int .i64 a3, .bool a4] 30) = w4 at *
        generalize w3.heap.size = oa at *
        refine (refget_any m (nm mm) L R w4 (by rw [HAG.out.len]; omega) HAG.out.srt HS4.out.f).mono ?_
        rintro e w5 ⟨b0, b1, b2, b3, b4, z, rfl, hz, hb5⟩
        obtain ⟨hyz, hab⟩ := HAG.out.same hone.out HY.out hz
        subst hyz
        injection hab with e0 e1 e2 e3 e4
        subst e0 e1 e2 e3 e4
        have HX5 := Lib.hid ((hb5.block oa (Array.getElem?_eq_some_iff.1 HX4.out).1).trans HX4.out)
        have HB5 := Lib.hid (HM1.out _ _ HB4.out hb5)
        have HS5 := Lib.hid (HS4.out.next hb5)
        clear hz hb5 HX4 HB4 HS4 HY hone
        have HL6 : Hid (Below w5.heap.size w5 (w5.alloc (.cells #[.int .i64 a0, .int .i64 a1, .int .i64 a2, .int .i64 a3, .bool a4] 30))) := (Below.refl _ _).alloc (Nat.le_refl _) _
        have HX6 := Lib.hid (heap_alloc_new w5 (.cells #[.int .i64 a0, .int .i64 a1, .int .i64 a2, .int .i64 a3, .bool a4] 30))
        have HY6 := Lib.hid ((HL6.out.block oa (Array.getElem?_eq_some_iff.1 HX5.out).1).trans HX5.out)
        have HB6 := Lib.hid (HM1.out _ _ HB5.out HL6.out)
        have HS6 := Lib.hid (HS5.out.next HL6.out)
        clear HL6 HX5 HB5 HS5
        have hq : ∀ W, (Op.equalIn 10000 30 (.agg #[.int .i64 a0, .int .i64 a1, .int .i64 a2, .int .i64 a3, .bool a4]) (.agg #[.int .i64 a0, .int .i64 a1, .int .i64 a2, .int .i64 a3, .bool a4])).run Try.prog W = .ok true W := fun W => ent_self 9998 W a0 a1 a2 a3 a4
        have hyy : (y == y) = true := beq_self_eq_true _
        go_upto_region 16 with fail
        generalize w5.alloc (.cells #[.int .i64 a0, .int .i64 a1, .int .i64 a2, .int .i64 a3, .bool a4] 30) = w6 at *
        generalize w5.heap.size = oc at *
        obtain ⟨x0, x1, x2, x3, x4⟩ := five_cells HX6.out
        obtain ⟨y0, y1, y2, y3, y4⟩ := five_cells HY6.out
        have HA6 := Lib.hid HAG.out.more
        have HTN : ∀ N, Hid (Tab 121 (w6.drewN N) S q H c wk3) := fun N => HS6.out.t.next (below_drewN w6 N)
        have HSN : ∀ N, Hid (SSt B (w6.drewN N) q m S R H c wk3 L) := fun N => HS6.out.next (below_drewN w6 N)
        have HBN : ∀ N, Hid (Below B w (w6.drewN N)) := fun N => below_drawn HB6.out N
        obtain ⟨Av, cv, -, hmv, -, -, -, -⟩ := HS6.out.f.open_
        rw [HA6.out.len] at hmv
        have c0 := box_cell hmv
        clear hmv
        have hcc : ((c : Int) == (c : Int)) = true := beq_self_eq_true _
        have hcc2 : (c == c) = true := beq_self_eq_true _
        go_upto_region 18 with fail
        go_quiet (first | (go_at_call 16; refine Calls.quiet_of_same ((tlen_any 121 q c wk3 H S _ (HTN _).out).mono fun _ _ h => ⟨h.1, h.2.symm⟩)))
        go_wp2_with fail
        go_roundw
        case rel => exact ⟨k + 1, by omega, by omega, by go_num, ⟨_, _, _, _, _, _, (HSN _).out, HA6.out⟩, HBN _⟩
        case measure => simp [Go.RowKit.intOf]; omega
      · have hb0 : (kd == 0) = false := beq_eq_false_iff_ne.2 h0
        have hb1 : (kd == 1) = false := beq_eq_false_iff_ne.2 h1
        clear h0 h1
        go_wp2_with fail
        refine (tdel_any 121 B q c wk (nm mm) H S w2 HQ2.out (by decide) (nm_size mm) HS2.out.s HS2.out.t).mono ?_
        rintro e w3 ⟨y, c3, wk3, rfl, hcc3, hn3, hT3, -⟩
        have HS3 := Lib.hid (HS2.out.tab hn3 hT3)
        have HB3 := Lib.hid (HB2.out.trans hn3.below)
        have HC3 := Lib.hid hcc3
        clear hn3 hT3 hcc3 HS2 HO2 HB2 HQ2 x0 x1 x2 x3 x4 x5 x6
        have HQ3 := Lib.hid (HZ.out _ HB3.out)
        go_wp2_with fail
        refine (refdel_any m (nm mm) L R w3 (by rw [HAG.out.len]; omega) HAG.out.srt HS3.out.f).mono ?_
        rintro e w4 ⟨z, L4, rfl, hk4, hf4, hs4, hl4, hm4⟩
        obtain ⟨hyz, hag⟩ := HAG.out.del HC3.out hs4 hl4 hm4
        subst hyz
        have HS4 := Lib.hid (HS3.out.ref HQ3.out hk4 hf4)
        have HB4 := Lib.hid (HB3.out.trans (HS3.out.below HQ3.out hk4))
        have HA4 := Lib.hid hag
        clear hk4 hf4 hs4 hl4 hm4 hag HS3 HB3 HC3 HQ3 HAG
        generalize Since R w3 w4 = R4 at *
        have hyy : (y == y) = true := beq_self_eq_true _
        have hc3 := HA4.out.le
        have HTN : ∀ N, Hid (Tab 121 (w4.drewN N) S q _ c3 wk3) := fun N => HS4.out.t.next (below_drewN w4 N)
        have HSN : ∀ N, Hid (SSt B (w4.drewN N) q m S R4 _ c3 wk3 L4) := fun N => HS4.out.next (below_drewN w4 N)
        have HBN : ∀ N, Hid (Below B w (w4.drewN N)) := fun N => below_drawn HB4.out N
        obtain ⟨Av, cv, -, hmv, -, -, -, -⟩ := HS4.out.f.open_
        rw [HA4.out.len] at hmv
        have c0 := box_cell hmv
        clear hmv
        have hcc : ((c3 : Int) == (c3 : Int)) = true := beq_self_eq_true _
        have hcc2 : (c3 == c3) = true := beq_self_eq_true _
        go_upto_region 18 with fail
        go_quiet (first | (go_at_call 16; refine Calls.quiet_of_same ((tlen_any 121 q c3 wk3 _ S _ (HTN _).out).mono fun _ _ h => ⟨h.1, h.2.symm⟩)))
        go_wp2_with fail
        go_roundw
        case rel => exact ⟨k + 1, by omega, by omega, by go_num, ⟨_, _, _, _, _, _, (HSN _).out, HA4.out⟩, HBN _⟩
        case measure => simp [Go.RowKit.intOf]; omega
    · have hex : (k < n ∧ Hid (decide ((k : Int) < 80) = false)) ∨ (¬ k < n ∧ Hid True) := by
        rcases Nat.lt_or_ge k n with h | h
        · exact .inl ⟨h, decide_eq_false (by have : ¬ k < 80 := fun h2 => hlt ⟨h, h2⟩; omega)⟩
        · exact .inr ⟨by omega, trivial⟩
      clear hlt
      rcases hex with ⟨hlt, hd0⟩ | ⟨hlt, hd0⟩
      all_goals
        have hd1 := hd0.out
        clear hd0
        obtain ⟨Av, cv, -, hmv, -, -, -, -⟩ := hst.out.f.open_
        rw [HAG.out.len] at hmv
        have HC : Hid (∀ W, Below wr.heap.size wr W → W.cell? ⟨m, 0, none⟩ = some (.slice Av c cv)) := fun W hW => box_cell ((hW.block m (Array.getElem?_eq_some_iff.1 hmv).1).trans hmv)
        have HBa : Hid (Below wr.heap.size wr wr.drew) := ⟨rfl, rfl, rfl, Nat.le_refl _, fun _ _ => rfl⟩
        have HSa := Lib.hid (hst.out.next HBa.out)
        have HBE := hbel
        have hcle := HAG.out.le
        clear hmv hst hbel
        go_upto_region 20 with fail
        refine wp_region_held_drew (S := fun W => W.cell? ⟨m, 0, none⟩ = some (.slice Av c cv)) (by kernel_rfl) (HC.out _ HBa.out) (fun hH => ?_)
        change wpAnyH _ _ _ _ _ 11 #[false, false, false, false, false, false, false, false, false, false, false] _ _
        clear hH
        generalize wr.drew = wa at *
        refine held_step (i := 0) rfl (by kernel_rfl) ?_ (fun K hK => ?_)
        · rfl
        go_simp
        refine (tbawake_any wa).mono ?_
        rintro e w1x ⟨rfl, hb1⟩
        have HB1 := Lib.hid (HBa.out.trans (hb1.mono HBa.out.size))
        have HS1 := Lib.hid (HSa.out.next hb1)
        clear hb1
        refine hK _ _ (HC.out _ HB1.out) ?_
        clear hK K
        simp only [List.setIfInBounds_toArray, List.set_cons_zero]
        refine held_take (i := 1) (v := ?_) (d := some 84) rfl rfl (by kernel_rfl) (by kernel_rfl) (by kernel_rfl) (fun _ _ _ h => h) (HC.out _ HB1.out) ⟨?_, fun w hSw => ?_⟩ ?_
        rotate_left 1
        · rfl
        · (go_simp; all_goals with_reducible rfl)
        simp only [Act.put, List.setIfInBounds_toArray, List.set_cons_zero, List.set_cons_succ]
        refine held_take (i := 2) (v := ?_) (d := some 85) rfl rfl (by kernel_rfl) (by kernel_rfl) (by kernel_rfl) (fun _ _ _ h => h) (HC.out _ HB1.out) ⟨?_, fun w hSw => ?_⟩ ?_
        rotate_left 1
        · rfl
        · (go_simp; all_goals with_reducible rfl)
        simp only [Act.put, List.setIfInBounds_toArray, List.set_cons_zero, List.set_cons_succ]
        refine held_take (i := 4) (v := ?_) (d := some 87) rfl rfl (by kernel_rfl) (by kernel_rfl) (by kernel_rfl) (fun _ _ _ h => h) (HC.out _ HB1.out) ⟨?_, fun w hSw => ?_⟩ ?_
        rotate_left 1
        · rfl
        · (go_simp; all_goals with_reducible rfl)
        simp only [Act.put, List.setIfInBounds_toArray, List.set_cons_zero, List.set_cons_succ]
        refine held_take (i := 5) (v := ?_) (d := some 88) rfl rfl (by kernel_rfl) (by kernel_rfl) (by kernel_rfl) (fun _ _ _ h => h) (HC.out _ HB1.out) ⟨?_, fun w hSw => ?_⟩ ?_
        rotate_left 1
        · rfl
        · (go_simp; all_goals with_reducible rfl)
        simp only [Act.put, List.setIfInBounds_toArray, List.set_cons_zero, List.set_cons_succ]
        refine held_take (i := 6) (v := ?_) (d := some 89) rfl rfl (by kernel_rfl) (by kernel_rfl) (by kernel_rfl) (fun _ _ _ h => h) (HC.out _ HB1.out) ⟨?_, fun w hSw => ?_⟩ ?_
        rotate_left 1
        · rfl
        · (go_simp; all_goals with_reducible rfl)
        simp only [Act.put, List.setIfInBounds_toArray, List.set_cons_zero, List.set_cons_succ]
        refine held_take (i := 7) (v := ?_) (d := some 90) rfl rfl (by kernel_rfl) (by kernel_rfl) (by kernel_rfl) (fun _ _ _ h => h) (HC.out _ HB1.out) ⟨?_, fun w hSw => ?_⟩ ?_
        rotate_left 1
        · rfl
        · have y1 := hSw
          (go_simp; all_goals with_reducible rfl)
        simp only [Act.put, List.setIfInBounds_toArray, List.set_cons_zero, List.set_cons_succ]
        refine held_step (i := 3) rfl (by kernel_rfl) ?_ (fun K hK => ?_)
        · rfl
        go_simp
        refine (tpairs_any 121 q c wk H S w1x (by decide) HAG.out.small HS1.out.t).mono ?_
        rintro e w2x ⟨g, pc, L2, rfl, hsrt, hmem, hLc, hcap1, hcap2, harr, hb2⟩
        obtain rfl : L2 = L := pairs_same hsrt HAG.out.srt fun k e => (hmem k e).trans (HAG.out.mem k e).symm
        rw [hLc] at hcap1 ⊢
        have HARR := Lib.hid harr
        have HCP := Lib.hid (And.intro hcap1 hcap2)
        have HB2 := Lib.hid (HB1.out.trans (hb2.mono HB1.out.size))
        have HS2 := Lib.hid (HS1.out.next hb2)
        clear hb2 hsrt hmem hLc harr hcap1 hcap2
        refine hK _ _ (HC.out _ HB2.out) ?_
        clear hK K
        simp only [List.setIfInBounds_toArray, List.set_cons_zero, List.set_cons_succ]
        refine held_step (i := 8) rfl (by kernel_rfl) ?_ (fun K hK => ?_)
        · rfl
        go_simp
        obtain ⟨Av2, cv2, -, hmv2, -, hsl2, harr2, hA2⟩ := HS2.out.f.open_
        have hcell2 := box_cell hmv2
        rw [HC.out _ HB2.out] at hcell2
        rw [HAG.out.len] at hcell2 hsl2
        injection hcell2 with hcell2
        injection hcell2 with hAv hnv hcv
        subst hAv hcv
        refine (refpairs_any (some ⟨g, 0, none⟩) Av c pc cv _ _ _ _ _ w2x ⟨(fun e => by cases e), HCP.out.1, HCP.out.2⟩ hsl2 HAG.out.len (.inr ⟨g, rfl⟩) (hA2.imp id fun ⟨g, h, _⟩ => ⟨g, h⟩) HARR harr2 (by have := HAG.out.le; omega)).mono ?_
        rintro e w3x ⟨rfl, hb3⟩
        have HB3 := Lib.hid (HB2.out.trans (hb3.mono HB2.out.size))
        clear hb3 hmv2 hsl2 harr2 hA2
        refine hK _ _ (HC.out _ HB3.out) ?_
        clear hK K
        simp only [List.setIfInBounds_toArray, List.set_cons_zero, List.set_cons_succ]
        refine held_take (i := 9) (v := ?_) (d := some 92) rfl rfl (by kernel_rfl) (by kernel_rfl) (by kernel_rfl) (fun _ _ _ h => h) (HC.out _ HB3.out) ⟨?_, fun w hSw => ?_⟩ ?_
        rotate_left 1
        · rfl
        · (go_simp; all_goals with_reducible rfl)
        simp only [Act.put, List.setIfInBounds_toArray, List.set_cons_zero, List.set_cons_succ]
        refine held_take (i := 10) (v := ?_) (d := some 2) rfl rfl (by kernel_rfl) (by kernel_rfl) (by kernel_rfl) (fun _ _ _ h => h) (HC.out _ HB3.out) ⟨?_, fun w hSw => ?_⟩ ?_
        rotate_left 1
        · rfl
        · (go_simp; all_goals with_reducible rfl)
        simp only [Act.put, List.setIfInBounds_toArray, List.set_cons_zero, List.set_cons_succ]
        refine wpAnyH_done (by kernel_rfl) ?_ _
        go_wp2_with fail
        go_ret
        exact ⟨rfl, HBE.out.trans (HB3.out.mono (HZ.out _ HBE.out))⟩
end Go.Proofs.Ytflnjippknpflaa
