/-
  The law on Load and Image, walked.
-/
import Derived.Test.YtfacinlpkblopaaDeviceNew
namespace Go.Proofs.Ytfacinlpkblopaa
open Go.RowKit Go.Maps
set_option maxHeartbeats 1000000 in
theorem deviceload_any (A : Option Addr) (n ca : Nat) (l : List Nat) (w : World) (hA : A = none → ca = 0 ∧ n = 0) (hl : Hid (l.length = n)) (hn : n ≤ ca) (hb : Hid (Bs w w.heap.size A l)) :
    Calls Try.prog 6 #[.slice A n ca] w (LawDid w) := by
  obtain ⟨i0, hi0, hz0, hz1, hz2⟩ := info_parts info_u8
  have I0 := Lib.hid (And.intro hi0 (And.intro hz0 (And.intro hz1 hz2))); clear hi0 hz0 hz1 hz2
  obtain ⟨mn, hmn, hm4, hmin⟩ : ∃ mn : Nat, mn ≤ n ∧ mn ≤ 400 ∧ Hid ((if (400 : Int) < (n : Int) then (400 : Int) else (n : Int)) = (mn : Int)) := by
    by_cases h : (400 : Int) < (n : Int)
    · exact ⟨400, by omega, Nat.le_refl _, if_pos h⟩
    · exact ⟨n, Nat.le_refl _, by omega, if_neg h⟩
  have HL1 : Hid ((vals (l.take mn)).length = mn * 1 ∧ (l.take mn).length = mn) := by
    constructor
    · rw [vals_length, List.length_take, hl.out]; omega
    · rw [List.length_take, hl.out]; omega
  have HB1 : Hid (Bs w w.heap.size A (l.take mn)) := hb.out.take mn
  have HA : Hid (A = none → mn = 0 ∧ ca = 0) := fun e => ⟨by have := (hA e).2; omega, (hA e).1⟩
  clear hA
  have HM : Hid (0 + mn ≤ maxLen ∧ (0 + mn) * 1 ≤ 140737488355328) := ⟨by unfold maxLen; omega, by omega⟩
  go_enter Try.func6, Try.ntmps6
  go_wp2_with (first
    | (with_reducible refine wpList_min2 rfl (.tmp 8) (.const (.int .i64 400)) _ rfl .i64 _ _ _ rfl rfl hmin.out ?_)
    | (at_builtin; refine append_onto rfl (.const (.slice none 0 0)) (.tmp 10) 27 rfl w.heap.size 5 i0 (.int .u8 0) 1 1 Try.underlying27 I0.out.1 I0.out.2.1 I0.out.2.2.1 I0.out.2.2.2 rfl (by decide) _ 0 [] rfl (World.ownsRow_nil _ _ _ _) A mn ca (vals (l.take mn)) rfl HA.out HL1.out.1 (fun ad e => by have h := HB1.out; rw [e] at h; exact h.cells) (vals_one _) HM.out.1 HM.out.2 (Nat.le_refl _) ?_; intro v1 w1 hown1 hg1
       simp only [Nat.zero_add, List.nil_append] at hown1))
  generalize hL : l.take mn = L at HL1 HB1 hown1
  clear hL
  have HW1 : Hid (Below w.heap.size w w1) := (Below.refl _ w).grown hg1 (Nat.le_refl _) (fun k e => by cases e)
  have HO1 := Lib.hid hown1; clear hown1 hg1
  obtain ⟨A1, cap1, rfl, hbs1, -, hnc1, hcm1, hA1⟩ := own_bytes HO1.out HB1.out.lt
  have HBS1 := Lib.hid hbs1; clear hbs1
  by_cases hbad : mn % 64 ≠ 0 ∨ mn < 64
  · refine (load_no A1 mn cap1 _ (hbad.elim .inl (fun h => .inr (.inl h))) (by omega)).mono ?_
    rintro e w' ⟨rfl, rfl⟩
    by_cases h0 : mn = 0
    · subst h0
      clear hbad
      go_wp2_with (first
        | (go_at_call 23; refine (awake_any _).mono ?_; rintro e w4 ⟨rfl, hb4⟩; have HB4 := Lib.hid hb4; clear hb4)
        | (go_at_call 24; refine (image_nil _).mono ?_; rintro e w' ⟨rfl, rfl⟩))
      go_ret
      exact ⟨rfl, HW1.out.trans (HB4.out.mono HW1.out.size)⟩
    · have h1 : ((mn : Int) == 0) = false := by simp; omega
      have h2 : ((mn : Int) % 64 != 0) = true := by rw [bne_iff_ne]; omega
      clear hbad h0
      go_wp2_with (first
        | (go_at_call 23; refine (awake_any _).mono ?_; rintro e w4 ⟨rfl, hb4⟩; have HB4 := Lib.hid hb4; clear hb4)
        | (go_at_call 24; refine (image_nil _).mono ?_; rintro e w' ⟨rfl, rfl⟩))
      go_ret
      exact ⟨rfl, HW1.out.trans (HB4.out.mono HW1.out.size)⟩
  · obtain ⟨N, hN, hN1, hN2⟩ : ∃ N, mn = N * 64 ∧ 1 ≤ N ∧ N ≤ 6 := ⟨mn / 64, by omega, by omega, by omega⟩
    clear hbad
    subst hN
    obtain ⟨I, rfl, hI1, hI2⟩ : ∃ I, A1 = some ⟨I, 0, none⟩ ∧ w.heap.size ≤ I ∧ I < w1.heap.size := by
      rcases hA1 with ⟨_, h, _⟩ | ⟨I, h1, h2, h3⟩
      · omega
      · exact ⟨I, h1, h2, h3⟩
    have e1 : ((N : Int) * 64 == 0) = false := by simp; omega
    have e2 : ((N : Int) * 64 % 64 != 0) = false := by simp
    have HLL : Hid (L.length = N * 64 ∧ ∀ x ∈ L, x < 256) := ⟨HL1.out.2, HB1.out.lt⟩
    have HRI : Hid (∃ cur : Array Value, w1.heap[I]? = some (.cells cur 5 (0, 0))) := by
      rcases HO1.out.2 with ⟨h, _⟩ | ⟨I', cap, cur, e, _, hg, _⟩
      · cases h
      · injection e with e
        injection e with e
        injection e with e
        subst e
        exact ⟨cur, hg⟩
    have hx := (HBS1.out 0 (by rw [HLL.out.1]; omega)).2
    generalize L.getD 0 0 = x at hx
    obtain ⟨ad, e, -, hx⟩ := hx
    injection e with e
    subst e
    rw [add_flat, Nat.zero_add] at hx
    have HX := Lib.hid hx
    clear hA1 HO1 HL1 HB1 hx
    refine (load_yes _ _ N cap1 L _ (fun e => by cases e) (Lib.hid HLL.out.1) hN1 (by omega) HBS1).mono ?_
    rintro e w2 ⟨g, c, m, rfl, hd, hg, hc, hm, hb2⟩
    have HD2 : Hid (Dev w2 g c m N (Flash.fresh L) ∧ Below w1.heap.size w1 w2 ∧ Below w.heap.size w w2 ∧ Bs w2 w2.heap.size (some ⟨I, 0, none⟩) L) := ⟨hd, hb2, HW1.out.trans (hb2.mono HW1.out.size), (HBS1.out.below hb2 (Nat.le_refl _)).more hb2.size⟩
    clear hd hb2 HBS1
    have HM2 : Hid (0 + N * 64 ≤ maxLen ∧ (0 + N * 64) * 1 ≤ 140737488355328 ∧ (vals L).length = N * 64 * 1) := ⟨by unfold maxLen; omega, by omega, by rw [vals_length, HLL.out.1]; omega⟩
    go_wp2_with (first
      | (at_builtin; refine append_onto rfl (.const (.slice none 0 0)) (.tmp 34) 27 rfl w2.heap.size 5 i0 (.int .u8 0) 1 1 Try.underlying27 I0.out.1 I0.out.2.1 I0.out.2.2.1 I0.out.2.2.2 rfl (by decide) _ 0 [] rfl (World.ownsRow_nil _ _ _ _) (some ⟨I, 0, none⟩) (N * 64) cap1 (vals L) rfl (fun h => by cases h) HM2.out.2.2 (fun ad e => by injection e with e; subst e; exact HD2.out.2.2.2.cells) (vals_one _) HM2.out.1 HM2.out.2.1 (Nat.le_refl _) ?_; intro v3 w3 hown3 hg3
         simp only [Nat.zero_add, List.nil_append] at hown3
         obtain ⟨A3, cap3, rfl, hbs3, -, hnc3, hcm3, hA3⟩ := own_bytes hown3 HLL.out.2
         have HB3 : Hid (Below w2.heap.size w2 w3) := (Below.refl _ w2).grown hg3 (Nat.le_refl _) (fun k e => by cases e)
         have HBS3 := Lib.hid hbs3
         have hx3 : w3.cell? ⟨I, 0, none⟩ = some (.int .u8 (x : Int)) := by
           refine (HB3.out.cell (p := ⟨I, 0, none⟩) (Nat.lt_of_lt_of_le hI2 HD2.out.2.1.size)).trans ((HD2.out.2.1.cell (p := ⟨I, 0, none⟩) hI2).trans HX.out)
         have hf3 : w3.frozen? ⟨I, 0, none⟩ = false := by
           refine (HB3.out.frozen (p := ⟨I, 0, none⟩) (Nat.lt_of_lt_of_le hI2 HD2.out.2.1.size)).trans ((HD2.out.2.1.frozen (p := ⟨I, 0, none⟩) hI2).trans ?_)
           obtain ⟨cur, hcur⟩ := HRI.out
           exact frozen_of_row w1 I 0 _ _ hcur
         clear hown3 hg3 hbs3))
    obtain ⟨I3, rfl, hI3, hI4⟩ : ∃ I3, A3 = some ⟨I3, 0, none⟩ ∧ w2.heap.size ≤ I3 ∧ I3 < w3.heap.size := by
      rcases hA3 with ⟨_, h, _⟩ | ⟨I, h1, h2, h3⟩
      · omega
      · exact ⟨I, h1, h2, h3⟩
    clear hA3 hx3 hf3
    have hs2 := HD2.out.2.1.size
    obtain ⟨l1, l2, l3⟩ := HD2.out.1.lt
    generalize hw4 : w3.setCell ⟨I, 0, none⟩ (.int .u8 (((x : Int) + 1) % 256)) = w4
    have HD4 : Hid (Dev w4 g c m N (Flash.fresh L) ∧ Below w.heap.size w w4 ∧ Bs w4 w4.heap.size (some ⟨I3, 0, none⟩) L ∧ w4.heap.size = w3.heap.size) := by
      have k4 : Kept (fun j => j = I) w3 w4 := by rw [← hw4]; exact Kept.setCell (S := fun j => j = I) w3 ⟨I, 0, none⟩ _ rfl
      have b3 : Below w.heap.size w w3 := HD2.out.2.2.1.trans (HB3.out.mono HD2.out.2.2.1.size)
      refine ⟨(HD2.out.1.below HB3.out l1 l2 l3).kept k4 (by omega) (by omega) (by omega), b3.trans (k4.below b3.size (fun k e => by omega)), (HBS3.out.kept k4 (fun ad e _ => ?_)).more k4.size, by rw [← hw4]; simp [World.setCell]⟩
      injection e with e
      subst e
      show ¬ I3 = I
      omega
    clear hw4 HD2 HB3 HBS3 HX HRI HM2
    refine (image_any (Lib.hid HD4.out.1)).mono ?_
    rintro e w5 ⟨g5, cap5, rfl, hg5, hbs5, hlc5, hcm5, hb5, hown5⟩
    have hL5 : (Flash.fresh L).cur = L := rfl
    rw [hL5] at hbs5 hlc5 hown5 ⊢
    have HD5 : Hid (Dev w5 g c m N (Flash.fresh L) ∧ Below w.heap.size w w5 ∧ Bs w5 w5.heap.size (some ⟨I3, 0, none⟩) L ∧ Bs w5 w5.heap.size (some ⟨g5, 0, none⟩) L ∧ w4.heap.size ≤ w5.heap.size ∧ w5.frozen? ⟨g5, 0, none⟩ = false) := by
      obtain ⟨q1, q2, q3⟩ := HD4.out.1.lt
      refine ⟨HD4.out.1.below hb5 q1 q2 q3, HD4.out.2.1.trans (hb5.mono HD4.out.2.1.size), (HD4.out.2.2.1.below hb5 (Nat.le_refl _)).more hb5.size, hbs5, hb5.size, ?_⟩
      rcases hown5.2 with ⟨h, _⟩ | ⟨I', cap, cur, e, _, hg, _⟩
      · cases h
      · injection e with e
        injection e with e
        injection e with e
        subst e
        exact frozen_of_row w5 g5 0 _ _ hg
    clear hbs5 hb5 hown5
    have hl5 := Lib.hid HLL.out.1
    go_wp2_with fail
    refine (refeq_any _ _ _ _ L.length (N * 64) _ _ L L _ (Lib.hid rfl) hl5 (by rw [HLL.out.1]; omega) (by omega) (Lib.hid HD5.out.2.2.2.1) (Lib.hid HD5.out.2.2.1)).mono ?_
    have ht : decide (L = L) = true := by simp
    rw [ht]
    rintro e w6 ⟨rfl, q, rfl⟩
    have hx5 := (HD5.out.2.2.2.1 0 (by rw [HLL.out.1]; omega)).2
    generalize L.getD 0 0 = y at hx5
    obtain ⟨ad, e, -, hx5⟩ := hx5
    injection e with e
    subst e
    rw [add_flat, Nat.zero_add] at hx5
    have hf5 := HD5.out.2.2.2.2.2
    have hlp : 0 < L.length := by rw [HLL.out.1]; omega
    clear ht
    go_wp2_with fail
    generalize hw7 : (w5.drewN q).setCell ⟨g5, 0, none⟩ (.int .u8 (((y : Int) + 1) % 256)) = w7
    obtain ⟨q1, q2, q3⟩ := HD4.out.1.lt
    have HS4 := HD4.out.2.2.2
    have HD7 : Hid (Dev w7 g c m N (Flash.fresh L) ∧ Below w.heap.size w w7 ∧ Bs w7 w7.heap.size (some ⟨I3, 0, none⟩) L) := by
      have k5 : Kept (fun j => j = g5) w5 (w5.drewN q) := (Kept.refl _ w5).drewN q
      have k7 : Kept (fun j => j = g5) w5 w7 := by rw [← hw7]; exact k5.trans (Kept.setCell (S := fun j => j = g5) (w5.drewN q) ⟨g5, 0, none⟩ _ rfl)
      refine ⟨HD5.out.1.kept k7 (by omega) (by omega) (by omega), HD5.out.2.1.trans (k7.below HD5.out.2.1.size (fun k e => by have := HD4.out.2.1.size; omega)), (HD5.out.2.2.1.kept k7 (fun ad e _ => ?_)).more k7.size⟩
      injection e with e
      subst e
      show ¬ I3 = g5
      omega
    clear hw7 HD5 HD4 HS4 hx5 hf5
    refine (awake_any _).mono ?_
    rintro e w8 ⟨rfl, hb8⟩
    have HD8 : Hid (Dev w8 g c m N (Flash.fresh L) ∧ Below w.heap.size w w8 ∧ Bs w8 w8.heap.size (some ⟨I3, 0, none⟩) L) := by
      obtain ⟨q1, q2, q3⟩ := HD7.out.1.lt
      exact ⟨HD7.out.1.below hb8 q1 q2 q3, HD7.out.2.1.trans (hb8.mono HD7.out.2.1.size), (HD7.out.2.2.below hb8 (Nat.le_refl _)).more hb8.size⟩
    clear HD7 hb8
    go_wp2_with fail
    refine (image_any (Lib.hid HD8.out.1)).mono ?_
    rintro e w9 ⟨g9, cap9, rfl, hg9, hbs9, hlc9, hcm9, hb9, -⟩
    have hL9 : (Flash.fresh L).cur = L := rfl
    rw [hL9] at hbs9 hlc9 ⊢
    have HD9 : Hid (Dev w9 g c m N (Flash.fresh L) ∧ Below w.heap.size w w9 ∧ Bs w9 w9.heap.size (some ⟨I3, 0, none⟩) L ∧ Bs w9 w9.heap.size (some ⟨g9, 0, none⟩) L) := by
      obtain ⟨q1, q2, q3⟩ := HD8.out.1.lt
      exact ⟨HD8.out.1.below hb9 q1 q2 q3, HD8.out.2.1.trans (hb9.mono HD8.out.2.1.size), (HD8.out.2.2.below hb9 (Nat.le_refl _)).more hb9.size, hbs9⟩
    clear hbs9 hb9 HD8
    go_wp2_with fail
    refine (refeq_any _ _ _ _ L.length (N * 64) _ _ L L _ (Lib.hid rfl) hl5 (by rw [HLL.out.1]; omega) (by omega) (Lib.hid HD9.out.2.2.2) (Lib.hid HD9.out.2.2.1)).mono ?_
    have ht : decide (L = L) = true := by simp
    rw [ht]
    rintro e w10 ⟨rfl, q', rfl⟩
    clear ht
    have HD10 : Hid (Dev (w9.drewN q') g c m N (Flash.fresh L)) := HD9.out.1.drewN q'
    have hdc : ((dirtyCount N (Flash.fresh L).old : Nat) : Int) = 0 := by
      have : dirtyCount N (Flash.fresh L).old = 0 := by simp [dirtyCount, dirtyList, Flash.fresh]
      rw [this]; rfl
    have CD := dirty_any HD10
    rw [hdc] at CD
    clear hdc
    go_wp2_with (first
      | (go_at_call 27; refine (sectors_any HD10).mono ?_; rintro e w' ⟨rfl, rfl⟩)
      | (go_at_call 28; refine CD.mono ?_; rintro e w' ⟨rfl, rfl⟩)
      | (go_at_call 29; refine (writes_any HD10).mono ?_; rintro e w' ⟨rfl, rfl⟩))
    go_ret
    have hb := HD9.out.2.1
    exact ⟨rfl, hb.os, hb.tape, hb.output, hb.size, hb.block⟩
end Go.Proofs.Ytfacinlpkblopaa
