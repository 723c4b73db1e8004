/-
  The law PackerTakes.
-/
import Derived.Test.YtjmhnbohojdodaaDoorPkLawFull
set_option maxRecDepth 100000
namespace Go.Proofs.YtjmhnbohojdodaaDoor
open Go.RowKit
/-- The loop's test: fewer than the records there are, and than twelve. -/
theorem loop_ways (i n m : Nat) (M : Int) (hM : M = (m : Int)) : (decide ((i : Int) < (n : Int)) = false ∧ decide (i < n) = false) ∨ (decide ((i : Int) < (n : Int)) = true ∧ decide (i < n) = true ∧ decide ((i : Int) < M) = false) ∨ (i < n ∧ i < m ∧ decide ((i : Int) < (n : Int)) = true ∧ decide (i < n) = true ∧ decide ((i : Int) < M) = true) := by
  by_cases h : i < n
  · by_cases h2 : i < m
    · exact .inr (.inr ⟨h, h2, by simp only [decide_eq_true_eq]; omega, by simp only [decide_eq_true_eq]; omega, by simp only [decide_eq_true_eq]; omega⟩)
    · exact .inr (.inl ⟨by simp only [decide_eq_true_eq]; omega, by simp only [decide_eq_true_eq]; omega, by simp only [decide_eq_false_iff_not]; omega⟩)
  · exact .inl ⟨by simp only [decide_eq_false_iff_not]; omega, by simp only [decide_eq_false_iff_not]; omega⟩
theorem frs_other {w w' : World} {c : Nat → Nat} {i j n : Nat} {sl : List (Option Addr × Nat × Nat)} {fs : List (List Nat)} (h : ∀ x, x < n → ∃ gf cf, sl.getD x (none, 0, 0) = (some ⟨gf, 0, none⟩, 64, cf) ∧ SRow (fun b => c b = j) 5 1 w (.slice (some ⟨gf, 0, none⟩) 64 cf) 64 (vals (fs.getD x []))) (hk : Kept (fun b => c b = i) w w') (hij : i ≠ j) (m : Nat) :
    ∀ x, x < n → ∃ gf cf, sl.getD x (none, 0, 0) = (some ⟨gf, 0, none⟩, 64, cf) ∧ SRow (fun b => paint c w w' m b = j) 5 1 w' (.slice (some ⟨gf, 0, none⟩) 64 cf) 64 (vals (fs.getD x [])) := fun x hx => by
  obtain ⟨gf, cf, b1, b2⟩ := h x hx
  exact ⟨gf, cf, b1, b2.other hk hij m⟩
set_option maxHeartbeats 4000000 in
theorem packertakes_any (a b c d : Int) (A1 : Option Addr) (n1 c1 : Nat) (l1 : List Rd) (A2 : Option Addr) (n2 c2 : Nat) (l2 : List Bool) (w : World) (hl1 : Hid (l1.length = n1)) (hb1 : Hid (RecsAt w w.heap.size A1 l1)) (hl2 : Hid (l2.length = n2)) (hb2 : Hid (Arr boolS w 0 w.heap.size A2 l2)) (ht : Hid (TabW w)) (hz : 0 < w.heap.size) :
    Calls Tryd.prog 7 #[.agg #[.int .i64 a, .int .i64 b, .int .i64 c, .int .i64 d], .slice A1 n1 c1, .slice A2 n2 c2] w fun e w' => e = .returned (.bool true) ∧ Below w.heap.size w w' := by
  have HS0 := Lib.hid (sd_new w #[.int .i64 1, .int .i64 b, .int .i64 c, .int .i64 4] 23)
  have CF := Lib.hid (fun W => refsbform_any 1 b c 4 W)
  have HA : Hid (∀ W, Below w.heap.size w W → Calls Tryd.prog 10 #[] W fun e w' => e = .returned (.bool true) ∧ Below W.heap.size W w') := fun W hb => pkawake_any W (Lib.hid (ht.out.below hb hz)) (Nat.lt_of_lt_of_le hz hb.size)
  rcases form_ways b c with hf | ⟨hf, f2 | ⟨f2, hform, hc16⟩⟩
  · rw [hf.out] at CF
    clear hf
    go_enter Tryd.func7, Tryd.ntmps7
    go_upto_region 2 with fail
    generalize w.alloc (.cells #[.int .i64 1, .int .i64 b, .int .i64 c, .int .i64 4] 23) = w0 at *
    obtain ⟨z0, z1, z2, z3⟩ := four_cells HS0.out.1
    go_wp2_with fail
    refine (CF.out _).mono ?_
    rintro r w1 ⟨rfl, hb1⟩
    have HS1 := Lib.hid (HS0.out.next hb1 (by rfl) (by rfl) (by rfl) (by rfl))
    clear hb1
    go_wp2_with fail
    refine (HA.out _ HS1.out.2).mono ?_
    rintro r w2 ⟨rfl, hb2⟩
    have HS2 := Lib.hid (HS1.out.next hb2 (by rfl) (by rfl) (by rfl) (by rfl))
    go_wp2
    go_ret
    exact ⟨rfl, HS2.out.2⟩
  · rw [hf.out] at CF
    clear hf
    go_enter Tryd.func7, Tryd.ntmps7
    go_upto_region 2 with fail
    generalize w.alloc (.cells #[.int .i64 1, .int .i64 b, .int .i64 c, .int .i64 4] 23) = w0 at *
    obtain ⟨z0, z1, z2, z3⟩ := four_cells HS0.out.1
    go_wp2_with fail
    refine (CF.out _).mono ?_
    rintro r w1 ⟨rfl, hb1⟩
    have HS1 := Lib.hid (HS0.out.next hb1 (by rfl) (by rfl) (by rfl) (by rfl))
    clear hb1
    obtain ⟨y0, y1, y2, y3⟩ := four_cells HS1.out.1
    go_wp2_with fail
    refine (HA.out _ HS1.out.2).mono ?_
    rintro r w2 ⟨rfl, hb2⟩
    have HS2 := Lib.hid (HS1.out.next hb2 (by rfl) (by rfl) (by rfl) (by rfl))
    go_wp2
    go_ret
    exact ⟨rfl, HS2.out.2⟩
  · rw [hf.out] at CF
    have hok : Pk.ok ⟨1, b, c, 4⟩ 1 7 := law_ok hform (by decide) (by decide)
    have HN := Lib.hid (fun W => pknew_any 1 b c 4 1 7 W)
    unfold PkNew at HN
    rw [Pk.may_zero hok] at HN
    have HOK := Lib.hid hok
    clear hf hok hform
    go_enter Tryd.func7, Tryd.ntmps7
    go_upto_region 2 with fail
    generalize w.alloc (.cells #[.int .i64 1, .int .i64 b, .int .i64 c, .int .i64 4] 23) = w0 at *
    obtain ⟨z0, z1, z2, z3⟩ := four_cells HS0.out.1
    go_wp2_with fail
    refine (CF.out _).mono ?_
    rintro r w1 ⟨rfl, hb1'⟩
    have HS1 := Lib.hid (HS0.out.next hb1' (by rfl) (by rfl) (by rfl) (by rfl))
    clear hb1' z0 z1 z2 z3
    obtain ⟨z0, z1, z2, z3⟩ := four_cells HS1.out.1
    go_wp2_with fail
    refine (HN.out _).mono ?_
    rintro e w2 ⟨p, rfl, hb2', -, hokp⟩
    obtain ⟨gp, rfl, hgp, hp2⟩ := hokp HOK.out
    have HS2 := Lib.hid (HS1.out.next hb2' (by rfl) (by rfl) (by rfl) (by rfl))
    have HP2 := Lib.hid hp2
    have HB2' := Lib.hid hb2'
    clear z0 z1 z2 z3 hp2 hokp hb2'
    obtain ⟨z0, z1, z2, z3⟩ := four_cells HS2.out.1
    go_wp2_with fail
    refine (HN.out _).mono ?_
    rintro e w3 ⟨p, rfl, hb3, -, hokq⟩
    obtain ⟨gq, rfl, hgq, hq3⟩ := hokq HOK.out
    have HS3 := Lib.hid (HS2.out.next hb3 (by rfl) (by rfl) (by rfl) (by rfl))
    obtain ⟨col, HST⟩ : ∃ col, Hid (StT w 1 b c 4 1 7 w3 col gp [] 0 gq [] 0 (.slice none 0 0) 0 [] (.slice none 0 0) 0 []) := by
      have hc2 := (Col.none w1 w.heap.size).paint HS1.out.2.size HB2'.out.size 1
      have hp2 := (HP2.out.first (c := fun _ => 0) 1)
      have hlt1 := (Array.getElem?_eq_some_iff.1 HS1.out.1).1
      have hlt2 := (Array.getElem?_eq_some_iff.1 HS2.out.1).1
      refine ⟨paint (paint (fun _ => 0) w1 w2 1) w2 w3 2, hc2.paint HS2.out.2.size hb3.size 2, HS3.out.2, ⟨HS3.out.1, by rw [paint_old hlt2, paint_old hlt1]⟩, ?_, hq3.first 2, SRow.nil, FrRow.nil⟩
      exact (hp2.mono fun x hx e => paint_keep hx e).new hb3
    have HFIT : Hid (Pk.Fit ⟨1, b, c, 4⟩ 1 7 [] 0) := Pk.Fit.start HOK.out
    clear hb3 hokq hq3 hgp hgq HN HS1 HS2 HP2 HB2' CF z0 z1 z2 z3 HS0
    go_wp2_with fail
    have HPUTP : Hid (∀ (W : World) (col : Nat → Nat) st k (r : Rd), PkIs 66 W (fun i => col i = 1) gp 1 b c 4 1 7 st k → Pk.Fit ⟨1, b, c, 4⟩ 1 7 st k → r.here W w.heap.size → TabW W → w.heap.size ≤ W.heap.size → Calls Tryd.prog 12 #[.pointer (some ⟨gp, 0, none⟩), .agg #[.int .i64 r.kd, .slice r.A1 r.n1 r.c1, .slice r.A2 r.n2 r.c2, .int .i64 r.x]] W (PkPut 66 W (fun i => col i = 1) gp 1 b c 4 1 7 st k r.r)) := fun W col st k r h1 h2 h3 h4 h5 =>
      pkput_any r.kd r.x r.key r.val r.A1 r.A2 w.heap.size r.n1 r.c1 r.n2 r.c2 h5 h3 (Lib.hid h1) h2 h4 (Nat.lt_of_lt_of_le hz h5)
    have HPUTQ : Hid (∀ (W : World) (col : Nat → Nat) st k (r : Rd), PkIs 66 W (fun i => col i = 2) gq 1 b c 4 1 7 st k → Pk.Fit ⟨1, b, c, 4⟩ 1 7 st k → r.here W w.heap.size → TabW W → w.heap.size ≤ W.heap.size → Calls Tryd.prog 12 #[.pointer (some ⟨gq, 0, none⟩), .agg #[.int .i64 r.kd, .slice r.A1 r.n1 r.c1, .slice r.A2 r.n2 r.c2, .int .i64 r.x]] W (PkPut 66 W (fun i => col i = 2) gq 1 b c 4 1 7 st k r.r)) := fun W col st k r h1 h2 h3 h4 h5 =>
      pkput_any r.kd r.x r.key r.val r.A1 r.A2 w.heap.size r.n1 r.c1 r.n2 r.c2 h5 h3 (Lib.hid h1) h2 h4 (Nat.lt_of_lt_of_le hz h5)
    have HTAKEP : Hid (∀ (W : World) (col : Nat → Nat) st k, PkIs 66 W (fun i => col i = 1) gp 1 b c 4 1 7 st k → Pk.Fit ⟨1, b, c, 4⟩ 1 7 st k → Col w.heap.size W col → TabW W ∧ 0 < W.heap.size → Calls Tryd.prog 16 #[.pointer (some ⟨gp, 0, none⟩)] W (PkTook 66 W (fun i => col i = 1) gp 1 b c 4 1 7 st k)) := fun W col st k h1 h2 h3 h4 =>
      pktake_any (Lib.hid h1) h2 (by have h := h3.2 0; intro e; have := h (by omega); omega) (Lib.hid h4.1) h4.2
    have HTAKEQ : Hid (∀ (W : World) (col : Nat → Nat) st k, PkIs 66 W (fun i => col i = 2) gq 1 b c 4 1 7 st k → Pk.Fit ⟨1, b, c, 4⟩ 1 7 st k → Col w.heap.size W col → TabW W ∧ 0 < W.heap.size → Calls Tryd.prog 16 #[.pointer (some ⟨gq, 0, none⟩)] W (PkTook 66 W (fun i => col i = 2) gq 1 b c 4 1 7 st k)) := fun W col st k h1 h2 h3 h4 =>
      pktake_any (Lib.hid h1) h2 (by have h := h3.2 0; intro e; have := h (by omega); omega) (Lib.hid h4.1) h4.2
    have HPM : Hid (∀ st (r : Rd), ∃ x, Pk.put ⟨1, b, c, 4⟩ 7 st r.r = st ++ x) := fun st r => Pk.put_more _ _ _ _
    have HFP : Hid (∀ st k (r : Rd) W B, Pk.Fit ⟨1, b, c, 4⟩ 1 7 st k → r.here W B → Pk.Fit ⟨1, b, c, 4⟩ 1 7 (Pk.put ⟨1, b, c, 4⟩ 7 st r.r) k) := fun st k r W B h1 h2 => h1.put _ h2.lt.1 h2.lt.2
    go_loopw [11, 12, 13] (fun sv fv iv wr => ∃ (i k : Nat) (st : List Nat) (col : Nat → Nat), iv = .int .i64 (i : Int) ∧ i ≤ 12 ∧ Hid (StT w 1 b c 4 1 7 wr col gp st k gq st 0 sv k (intS.flat (Pk.secs ⟨1, b, c, 4⟩ 1 0 k)) fv k (Pk.frames ⟨1, b, c, 4⟩ 1 7 st 0 k)) ∧ Hid (Pk.Fit ⟨1, b, c, 4⟩ 1 7 st k)) (fun _ _ i _ => 12 - (Go.RowKit.intOf i).toNat)
    case atStart => exact ⟨0, 0, [], col, rfl, by decide, HST.out, HFIT.out⟩
    case round =>
      obtain ⟨i, k, st, col, rfl, hi12, HST, HFIT⟩ := hrel
      rcases loop_ways i n1 12 12 rfl with ⟨f1, f1'⟩ | ⟨f1, f1', f3⟩ | ⟨hin, hi, f1, f1', f3⟩
      · go_wp2_with fail
        refine (pkpad_any (Lib.hid HST.out.p) HFIT.out.short).mono ?_
        rintro e w4 ⟨rfl, hp4, hk4⟩
        have HST4 := Lib.hid (HST.out.onP hp4 hk4)
        clear hp4 hk4
        generalize paint col wr w4 1 = col4 at *
        go_wp2_with fail
        refine (pkpad_any (Lib.hid HST4.out.q) HFIT.out.short).mono ?_
        rintro e w5 ⟨rfl, hp5, hk5⟩
        have HST5 := Lib.hid (HST4.out.onQ hp5 hk5)
        have HFIT5 := Lib.hid HFIT.out.pad
        have HFR : Hid (Pk.frames ⟨1, b, c, 4⟩ 1 7 (Pk.pad st) 0 k = Pk.frames ⟨1, b, c, 4⟩ 1 7 st 0 k) := Pk.frames_more st _ 0 k (by have := HFIT.out.full; omega)
        rw [← HFR.out] at HST5
        clear hp5 hk5 HST4 HFR HFIT HST
        generalize Pk.pad st = s5 at *
        generalize paint col4 w4 w5 2 = col5 at *
        go_wp2_with fail
        refine (HTAKEP.out w5 col5 s5 k HST5.out.p HFIT5.out HST5.out.colr (HST5.out.tab ht.out hz)).mono ?_
        rintro e w8 ⟨v1, v2, rfl, hs8, hf8, hp8, hk8⟩
        have HST8 := Lib.hid (HST5.out.tookP hp8 hk8)
        have HV1 := Lib.hid (hs8.first (c := col5) 5)
        have HX8 := Lib.hid (hf8.first (c := col5) 5)
        have hkf := HFIT5.out.full
        have hff := Pk.full_le HFIT5.out
        have HSS := Lib.hid (Pk.secs_then ⟨1, b, c, 4⟩ 1 k (Pk.full s5 - k))
        have HFF := Lib.hid (Pk.frames_then ⟨1, b, c, 4⟩ 1 7 s5 k (Pk.full s5 - k))
        have HFIT8 := Lib.hid (HFIT5.out.take (Nat.le_refl _))
        obtain ⟨n, hn⟩ : ∃ n, n = Pk.full s5 - k := ⟨_, rfl⟩
        rw [← hn] at HV1 HX8 HSS HFF
        have HKN : Hid (k + n = Pk.full s5) := by show _ = _; omega
        have hkn : k + n ≤ 1000000 ∧ (k + n) * 8 ≤ 140737488355328 ∧ (k + n) * 24 ≤ 140737488355328 := by omega
        clear hs8 hf8 hp8 hk8 HST5 hn
        generalize paint col5 w5 w8 5 = col8 at *
        rw [← HKN.out] at HST8 HFIT8
        obtain ⟨sl, hsl1, hsl2, hsl3⟩ := HST8.out.f
        obtain ⟨sx, hsx1, hsx2, hsx3⟩ := HX8.out
        have HSL := Lib.hid (And.intro hsl1 hsl3)
        have HSX := Lib.hid (And.intro hsx1 hsx3)
        clear hsl1 hsl2 hsl3 hsx1 hsx2 hsx3
        go_wp2_with (at_builtin; first
          | (refine BigFrame.wpList_want rfl fun K hK => ?_; refine op_append_all (Sh := intS) (.tmp 99) (.tmp 100) 44 rfl Tryd.underlying44 info_int rfl u11 k (Pk.secs ⟨1, b, c, 4⟩ 1 0 k) rfl HST8.out.s v1 n (Pk.secs ⟨1, b, c, 4⟩ 1 k n) rfl HV1.out hkn.1 hkn.2.1 ?_; intro v9 w9 hr9 hk9; refine hK _ _ ?_; have HR9 := Lib.hid hr9; have HK9 := Lib.hid hk9; have HX9 := Lib.hid (HX8.out.other hk9 (by decide) (by decide) 3); have HSL9 : Hid (SRow (fun x => paint col8 w8 w9 3 x = 4) 34 1 w9 u12 k (slS.flat sl) ∧ _) := ⟨HSL.out.1.other hk9 (by decide) 3, frs_other HSL.out.2 hk9 (by decide) 3⟩; have HSX9 : Hid (SRow (fun x => paint col8 w8 w9 3 x = 5) 34 1 w9 v2 n (slS.flat sx) ∧ _) := ⟨HSX.out.1.other hk9 (by decide) 3, frs_other HSX.out.2 hk9 (by decide) 3⟩; clear hr9 hk9 hK K)
          | (refine BigFrame.wpList_want rfl fun K hK => ?_; refine op_append_all (Sh := slS) (.tmp 102) (.tmp 103) 45 rfl Tryd.underlying45 info_sl rfl u12 k sl rfl HSL9.out.1 v2 n sx rfl HSX9.out.1 hkn.1 hkn.2.2 ?_; intro v10 w10 hr10 hk10; refine hK _ _ ?_; have HR10 := Lib.hid hr10; have HK10 := Lib.hid hk10; clear hr10 hk10 hK K))
        rw [HSS.out] at HR9
        have HST9 := Lib.hid (HST8.out.onS HR9.out HK9.out)
        have HST10 := Lib.hid (HST9.out.onF HR10.out HK10.out HSL9.out.1 HSL9.out.2 HX9.out HSX9.out.2)
        rw [HFF.out] at HST10
        clear HST8 HST9 HR9 HK9 HR10 HK10 HX8 HX9 HSL HSX HSL9 HSX9 HV1
        generalize paint (paint col8 w8 w9 3) w9 w10 4 = col9 at *
        have hkz : k + n = Pk.full s5 := HKN.out
        rw [hkz] at HST10 HFIT8
        have HFQ := Lib.hid (HFIT8.out.take (Nat.zero_le _))
        obtain ⟨N, hN⟩ : ∃ N, N = Pk.full s5 := ⟨_, rfl⟩
        have hN2 : N ≤ 2047 := by omega
        have HFL : Hid (∀ i, i < N → ∀ x ∈ (Pk.frames ⟨1, b, c, 4⟩ 1 7 s5 0 N).getD i [], x < 256) := fun i hi x hx => by
          unfold Pk.frames at hx
          rw [List.getD_eq_getElem?_getD, List.getElem?_map, List.getElem?_range' hi] at hx
          simp only [Option.map_some, Option.getD_some, Nat.zero_add, Nat.one_mul] at hx
          exact Pk.frame_lt HFQ.out (by omega) x hx
        have HSL := Lib.hid (Pk.secs_length ⟨1, b, c, 4⟩ 1 0 N)
        clear hkn hkf HKN HFF HSS hkz
        go_wp2_with fail
        refine (HTAKEQ.out w10 col9 s5 0 HST10.out.q HFQ.out HST10.out.colr (HST10.out.tab ht.out hz)).mono ?_
        rintro e w11 ⟨v3, v4, rfl, hs11, hf11, hp11, hk11⟩
        rw [Nat.sub_zero] at hs11 hf11
        have HST11 := Lib.hid (HST10.out.tookQ hp11 hk11)
        have HV3 := Lib.hid hs11
        have HV4 := Lib.hid hf11
        clear hs11 hf11 hp11 hk11 HST10
        generalize paint col9 w10 w11 5 = col11 at *
        rw [← hN] at HST11 HV3 HV4
        go_wp2_with fail
        refine (HA.out _ HST11.out.up).mono ?_
        rintro e w12 ⟨rfl, hb12⟩
        have HST12 := Lib.hid (HST11.out.new hb12)
        have HV3' := Lib.hid (HV3.out.new hb12)
        have HV4' := Lib.hid (HV4.out.new hb12)
        clear hb12 HST11 HV3 HV4
        have HINT : Hid (∀ W, Below w12.heap.size w12 W → Calls Tryd.prog 18 #[v9, v3] W fun r w' => r = .returned (.bool true) ∧ Below W.heap.size W w') := fun W hW => by
          obtain ⟨B1, d1, rfl, hq1, ha1⟩ := ARow.open_ (S := intS) (show ARow intS 3 W 0 _ N _ from (HST12.out.s.new hW).1)
          obtain ⟨B2, d2, rfl, hq2, ha2⟩ := ARow.open_ (S := intS) (show ARow intS 3 W 0 _ N _ from (HV3'.out.new hW).1)
          have h := refints_any B1 B2 0 W.heap.size 0 W.heap.size N N d1 d2 _ _ W HSL HSL (by omega) (by omega) (Lib.hid ha1) (Lib.hid ha2)
          rwa [decide_eq_true rfl] at h
        have HFRM : Hid (∀ W, Below w12.heap.size w12 W → Calls Tryd.prog 19 #[v10, v4] W fun r w' => r = .returned (.bool true) ∧ Below W.heap.size W w') := fun W hW =>
          refframes_any v10 v4 N _ W (Lib.hid (HST12.out.f.new hW)) (Lib.hid (HV4'.out.new hW)) (by omega) HFL
        have HUP := Lib.hid HST12.out.up
        clear HST12 HV3' HV4'
        go_wp2_with fail
        refine (HINT.out _ (Below.refl _ _)).mono ?_
        rintro e w13 ⟨rfl, hb13⟩
        go_wp2_with fail
        refine (HFRM.out _ hb13).mono ?_
        rintro e w14 ⟨rfl, hb14⟩
        have HEND := Lib.hid (HUP.out.trans ((hb13.trans (hb14.mono hb13.size)).mono HUP.out.size))
        go_wp2
        go_ret
        exact ⟨rfl, HEND.out⟩
      · go_wp2_with fail
        refine (pkpad_any (Lib.hid HST.out.p) HFIT.out.short).mono ?_
        rintro e w4 ⟨rfl, hp4, hk4⟩
        have HST4 := Lib.hid (HST.out.onP hp4 hk4)
        clear hp4 hk4
        generalize paint col wr w4 1 = col4 at *
        go_wp2_with fail
        refine (pkpad_any (Lib.hid HST4.out.q) HFIT.out.short).mono ?_
        rintro e w5 ⟨rfl, hp5, hk5⟩
        have HST5 := Lib.hid (HST4.out.onQ hp5 hk5)
        have HFIT5 := Lib.hid HFIT.out.pad
        have HFR : Hid (Pk.frames ⟨1, b, c, 4⟩ 1 7 (Pk.pad st) 0 k = Pk.frames ⟨1, b, c, 4⟩ 1 7 st 0 k) := Pk.frames_more st _ 0 k (by have := HFIT.out.full; omega)
        rw [← HFR.out] at HST5
        clear hp5 hk5 HST4 HFR HFIT HST
        generalize Pk.pad st = s5 at *
        generalize paint col4 w4 w5 2 = col5 at *
        go_wp2_with fail
        refine (HTAKEP.out w5 col5 s5 k HST5.out.p HFIT5.out HST5.out.colr (HST5.out.tab ht.out hz)).mono ?_
        rintro e w8 ⟨v1, v2, rfl, hs8, hf8, hp8, hk8⟩
        have HST8 := Lib.hid (HST5.out.tookP hp8 hk8)
        have HV1 := Lib.hid (hs8.first (c := col5) 5)
        have HX8 := Lib.hid (hf8.first (c := col5) 5)
        have hkf := HFIT5.out.full
        have hff := Pk.full_le HFIT5.out
        have HSS := Lib.hid (Pk.secs_then ⟨1, b, c, 4⟩ 1 k (Pk.full s5 - k))
        have HFF := Lib.hid (Pk.frames_then ⟨1, b, c, 4⟩ 1 7 s5 k (Pk.full s5 - k))
        have HFIT8 := Lib.hid (HFIT5.out.take (Nat.le_refl _))
        obtain ⟨n, hn⟩ : ∃ n, n = Pk.full s5 - k := ⟨_, rfl⟩
        rw [← hn] at HV1 HX8 HSS HFF
        have HKN : Hid (k + n = Pk.full s5) := by show _ = _; omega
        have hkn : k + n ≤ 1000000 ∧ (k + n) * 8 ≤ 140737488355328 ∧ (k + n) * 24 ≤ 140737488355328 := by omega
        clear hs8 hf8 hp8 hk8 HST5 hn
        generalize paint col5 w5 w8 5 = col8 at *
        rw [← HKN.out] at HST8 HFIT8
        obtain ⟨sl, hsl1, hsl2, hsl3⟩ := HST8.out.f
        obtain ⟨sx, hsx1, hsx2, hsx3⟩ := HX8.out
        have HSL := Lib.hid (And.intro hsl1 hsl3)
        have HSX := Lib.hid (And.intro hsx1 hsx3)
        clear hsl1 hsl2 hsl3 hsx1 hsx2 hsx3
        go_wp2_with (at_builtin; first
          | (refine BigFrame.wpList_want rfl fun K hK => ?_; refine op_append_all (Sh := intS) (.tmp 99) (.tmp 100) 44 rfl Tryd.underlying44 info_int rfl u11 k (Pk.secs ⟨1, b, c, 4⟩ 1 0 k) rfl HST8.out.s v1 n (Pk.secs ⟨1, b, c, 4⟩ 1 k n) rfl HV1.out hkn.1 hkn.2.1 ?_; intro v9 w9 hr9 hk9; refine hK _ _ ?_; have HR9 := Lib.hid hr9; have HK9 := Lib.hid hk9; have HX9 := Lib.hid (HX8.out.other hk9 (by decide) (by decide) 3); have HSL9 : Hid (SRow (fun x => paint col8 w8 w9 3 x = 4) 34 1 w9 u12 k (slS.flat sl) ∧ _) := ⟨HSL.out.1.other hk9 (by decide) 3, frs_other HSL.out.2 hk9 (by decide) 3⟩; have HSX9 : Hid (SRow (fun x => paint col8 w8 w9 3 x = 5) 34 1 w9 v2 n (slS.flat sx) ∧ _) := ⟨HSX.out.1.other hk9 (by decide) 3, frs_other HSX.out.2 hk9 (by decide) 3⟩; clear hr9 hk9 hK K)
          | (refine BigFrame.wpList_want rfl fun K hK => ?_; refine op_append_all (Sh := slS) (.tmp 102) (.tmp 103) 45 rfl Tryd.underlying45 info_sl rfl u12 k sl rfl HSL9.out.1 v2 n sx rfl HSX9.out.1 hkn.1 hkn.2.2 ?_; intro v10 w10 hr10 hk10; refine hK _ _ ?_; have HR10 := Lib.hid hr10; have HK10 := Lib.hid hk10; clear hr10 hk10 hK K))
        rw [HSS.out] at HR9
        have HST9 := Lib.hid (HST8.out.onS HR9.out HK9.out)
        have HST10 := Lib.hid (HST9.out.onF HR10.out HK10.out HSL9.out.1 HSL9.out.2 HX9.out HSX9.out.2)
        rw [HFF.out] at HST10
        clear HST8 HST9 HR9 HK9 HR10 HK10 HX8 HX9 HSL HSX HSL9 HSX9 HV1
        generalize paint (paint col8 w8 w9 3) w9 w10 4 = col9 at *
        have hkz : k + n = Pk.full s5 := HKN.out
        rw [hkz] at HST10 HFIT8
        have HFQ := Lib.hid (HFIT8.out.take (Nat.zero_le _))
        obtain ⟨N, hN⟩ : ∃ N, N = Pk.full s5 := ⟨_, rfl⟩
        have hN2 : N ≤ 2047 := by omega
        have HFL : Hid (∀ i, i < N → ∀ x ∈ (Pk.frames ⟨1, b, c, 4⟩ 1 7 s5 0 N).getD i [], x < 256) := fun i hi x hx => by
          unfold Pk.frames at hx
          rw [List.getD_eq_getElem?_getD, List.getElem?_map, List.getElem?_range' hi] at hx
          simp only [Option.map_some, Option.getD_some, Nat.zero_add, Nat.one_mul] at hx
          exact Pk.frame_lt HFQ.out (by omega) x hx
        have HSL := Lib.hid (Pk.secs_length ⟨1, b, c, 4⟩ 1 0 N)
        clear hkn hkf HKN HFF HSS hkz
        go_wp2_with fail
        refine (HTAKEQ.out w10 col9 s5 0 HST10.out.q HFQ.out HST10.out.colr (HST10.out.tab ht.out hz)).mono ?_
        rintro e w11 ⟨v3, v4, rfl, hs11, hf11, hp11, hk11⟩
        rw [Nat.sub_zero] at hs11 hf11
        have HST11 := Lib.hid (HST10.out.tookQ hp11 hk11)
        have HV3 := Lib.hid hs11
        have HV4 := Lib.hid hf11
        clear hs11 hf11 hp11 hk11 HST10
        generalize paint col9 w10 w11 5 = col11 at *
        rw [← hN] at HST11 HV3 HV4
        go_wp2_with fail
        refine (HA.out _ HST11.out.up).mono ?_
        rintro e w12 ⟨rfl, hb12⟩
        have HST12 := Lib.hid (HST11.out.new hb12)
        have HV3' := Lib.hid (HV3.out.new hb12)
        have HV4' := Lib.hid (HV4.out.new hb12)
        clear hb12 HST11 HV3 HV4
        have HINT : Hid (∀ W, Below w12.heap.size w12 W → Calls Tryd.prog 18 #[v9, v3] W fun r w' => r = .returned (.bool true) ∧ Below W.heap.size W w') := fun W hW => by
          obtain ⟨B1, d1, rfl, hq1, ha1⟩ := ARow.open_ (S := intS) (show ARow intS 3 W 0 _ N _ from (HST12.out.s.new hW).1)
          obtain ⟨B2, d2, rfl, hq2, ha2⟩ := ARow.open_ (S := intS) (show ARow intS 3 W 0 _ N _ from (HV3'.out.new hW).1)
          have h := refints_any B1 B2 0 W.heap.size 0 W.heap.size N N d1 d2 _ _ W HSL HSL (by omega) (by omega) (Lib.hid ha1) (Lib.hid ha2)
          rwa [decide_eq_true rfl] at h
        have HFRM : Hid (∀ W, Below w12.heap.size w12 W → Calls Tryd.prog 19 #[v10, v4] W fun r w' => r = .returned (.bool true) ∧ Below W.heap.size W w') := fun W hW =>
          refframes_any v10 v4 N _ W (Lib.hid (HST12.out.f.new hW)) (Lib.hid (HV4'.out.new hW)) (by omega) HFL
        have HUP := Lib.hid HST12.out.up
        clear HST12 HV3' HV4'
        go_wp2_with fail
        refine (HINT.out _ (Below.refl _ _)).mono ?_
        rintro e w13 ⟨rfl, hb13⟩
        go_wp2_with fail
        refine (HFRM.out _ hb13).mono ?_
        rintro e w14 ⟨rfl, hb14⟩
        have HEND := Lib.hid (HUP.out.trans ((hb13.trans (hb14.mono hb13.size)).mono HUP.out.size))
        go_wp2
        go_ret
        exact ⟨rfl, HEND.out⟩
      · obtain ⟨ad, hA⟩ := hb1.out.1.some (k := i) (by rw [hl1.out]; exact hin)
        subst hA
        have hra := hb1.out.below HST.out.up (Nat.le_refl _)
        obtain ⟨r0, hr0⟩ : ∃ r0, l1.getD i Rd0 = r0 := ⟨_, rfl⟩
        obtain ⟨e0, e1, e2, e3⟩ := recs_at hra.1 i (by rw [hl1.out]; exact hin) r0 hr0
        have HR0 := Lib.hid (hra.2 i (by rw [hl1.out]; exact hin))
        rw [hr0] at HR0
        have CSH := Lib.hid (fun W => shortrec_any r0 W ⟨HR0.out.1.1, HR0.out.2.1⟩)
        have HRS := Lib.hid HR0.out.short
        generalize r0.short = r at *
        have hib : (i : Int) < 12 := by omega
        have hib2 : (i : Int) < (n1 : Int) := by omega
        clear hra hr0 HR0
        go_wp2_with fail
        refine (CSH.out _).mono ?_
        rintro e w4 ⟨rfl, hb4⟩
        have HST4 := Lib.hid (HST.out.new hb4)
        have HST5 := Lib.hid (HST4.out.new ((Below.refl _ w4).alloc (Nat.le_refl _) (.cells #[.int .i64 r.kd, .slice r.A1 r.n1 r.c1, .slice r.A2 r.n2 r.c2, .int .i64 r.x] 38)))
        have HBX := Lib.hid (Free.made HST4.out.colr (.cells #[.int .i64 r.kd, .slice r.A1 r.n1 r.c1, .slice r.A2 r.n2 r.c2, .int .i64 r.x] 38))
        have HRS5 := Lib.hid (HRS.out.below (hb4.trans (((Below.refl _ w4).alloc (Nat.le_refl _) (.cells #[.int .i64 r.kd, .slice r.A1 r.n1 r.c1, .slice r.A2 r.n2 r.c2, .int .i64 r.x] 38)).mono hb4.size)) HST.out.up.size)
        clear hb4 e0 e1 e2 e3 CSH HST4 HRS
        go_wp2_with fail
        generalize w4.alloc (.cells #[.int .i64 r.kd, .slice r.A1 r.n1 r.c1, .slice r.A2 r.n2 r.c2, .int .i64 r.x] 38) = w5 at *
        generalize w4.heap.size = br at *
        refine (HPUTP.out w5 col st k r HST5.out.p HFIT.out HRS5.out (HST5.out.tab ht.out hz).1 HST5.out.up.size).mono ?_
        rintro e w6 ⟨rfl, hp6, hk6⟩
        generalize (if Pk.err ⟨1, b, c, 4⟩ st r.r = 0 then (st.length : Int) else 0) = za
        generalize (if Pk.err ⟨1, b, c, 4⟩ st r.r = 0 then (Rc.len r.r : Int) else 0) = zb
        generalize Pk.err ⟨1, b, c, 4⟩ st r.r = zc
        have HST6 := Lib.hid (HST5.out.onP hp6 hk6)
        have HBX6 := Lib.hid (HBX.out.other hk6 (by decide) 1)
        have HRS6 := Lib.hid (HRS5.out.below (HST5.out.colr.below HST5.out.up.size hk6 (by decide)) (Nat.le_refl _))
        have HFQ := Lib.hid (HFIT.out.take (Nat.zero_le _))
        have HFIT7 := Lib.hid (HFP.out st k r w5 _ HFIT.out HRS5.out)
        obtain ⟨y0, y1, y2, y3⟩ := four_cells HBX6.out.1
        clear hp6 hk6 HST5 HBX HRS5
        generalize paint col w5 w6 1 = col6 at *
        go_wp2_with fail
        refine (HPUTQ.out w6 col6 st 0 r HST6.out.q HFQ.out HRS6.out (HST6.out.tab ht.out hz).1 HST6.out.up.size).mono ?_
        rintro e w7 ⟨rfl, hp7, hk7⟩
        generalize (if Pk.err ⟨1, b, c, 4⟩ st r.r = 0 then (st.length : Int) else 0) = zd
        generalize (if Pk.err ⟨1, b, c, 4⟩ st r.r = 0 then (Rc.len r.r : Int) else 0) = ze
        generalize Pk.err ⟨1, b, c, 4⟩ st r.r = zf
        have HST7 := Lib.hid (HST6.out.onQ hp7 hk7)
        obtain ⟨x, hx⟩ := HPM.out st r
        have HFR : Hid (Pk.frames ⟨1, b, c, 4⟩ 1 7 (Pk.put ⟨1, b, c, 4⟩ 7 st r.r) 0 k = Pk.frames ⟨1, b, c, 4⟩ 1 7 st 0 k) := by
          show _ = _
          rw [hx]
          exact Pk.frames_more st x 0 k (by have := HFIT.out.full; omega)
        rw [← HFR.out] at HST7
        clear hp7 hk7 HST6 HBX6 HRS6 HFQ y0 y1 y2 y3 HFIT HST hx HFR x
        generalize Pk.put ⟨1, b, c, 4⟩ 7 st r.r = st' at *
        generalize paint col6 w6 w7 2 = col7 at *
        obtain ⟨ad2, hA2⟩ : ∃ ad, i < n2 → A2 = some ad := by
          by_cases h : i < n2
          · obtain ⟨ad, e⟩ := hb2.out.some (k := i) (by rw [hl2.out]; exact h)
            exact ⟨ad, fun _ => e⟩
          · exact ⟨⟨0, 0, none⟩, fun h' => absurd h' h⟩
        rcases take_ways i n2 l2 with ⟨f4, f5, f6⟩ | ⟨hin2, f5, f6 | f6⟩
        · go_wp2
          go_roundw
          case rel => exact ⟨i + 1, k, st', col7, by go_num, by omega, HST7.out, HFIT7.out⟩
          case measure => simp [Go.RowKit.intOf]; omega
        · obtain rfl := hA2 hin2
          have c0 := bools_at (hb2.out.below HST7.out.up (Nat.le_refl _)) i (by rw [hl2.out]; exact hin2)
          rw [f6] at c0
          clear f6
          go_wp2_with fail
          go_roundw
          case rel => exact ⟨i + 1, k, st', col7, by go_num, by omega, HST7.out, HFIT7.out⟩
          case measure => simp [Go.RowKit.intOf]; omega
        · obtain rfl := hA2 hin2
          have c0 := bools_at (hb2.out.below HST7.out.up (Nat.le_refl _)) i (by rw [hl2.out]; exact hin2)
          rw [f6] at c0
          clear f6
          go_wp2_with fail
          refine (HTAKEP.out w7 col7 st' k HST7.out.p HFIT7.out HST7.out.colr (HST7.out.tab ht.out hz)).mono ?_
          rintro e w8 ⟨v1, v2, rfl, hs8, hf8, hp8, hk8⟩
          have HST8 := Lib.hid (HST7.out.tookP hp8 hk8)
          have HV1 := Lib.hid (hs8.first (c := col7) 5)
          have HX8 := Lib.hid (hf8.first (c := col7) 5)
          have hkf := HFIT7.out.full
          have hff := Pk.full_le HFIT7.out
          have HSS := Lib.hid (Pk.secs_then ⟨1, b, c, 4⟩ 1 k (Pk.full st' - k))
          have HFF := Lib.hid (Pk.frames_then ⟨1, b, c, 4⟩ 1 7 st' k (Pk.full st' - k))
          have HFIT8 := Lib.hid (HFIT7.out.take (Nat.le_refl _))
          obtain ⟨n, hn⟩ : ∃ n, n = Pk.full st' - k := ⟨_, rfl⟩
          rw [← hn] at HV1 HX8 HSS HFF
          have HKN : Hid (k + n = Pk.full st') := by show _ = _; omega
          have hkn : k + n ≤ 1000000 ∧ (k + n) * 8 ≤ 140737488355328 ∧ (k + n) * 24 ≤ 140737488355328 := by omega
          clear hs8 hf8 hp8 hk8 HST7 hn
          generalize paint col7 w7 w8 5 = col8 at *
          rw [← HKN.out] at HST8 HFIT8
          obtain ⟨sl, hsl1, hsl2, hsl3⟩ := HST8.out.f
          obtain ⟨sx, hsx1, hsx2, hsx3⟩ := HX8.out
          have HSL := Lib.hid (And.intro hsl1 hsl3)
          have HSX := Lib.hid (And.intro hsx1 hsx3)
          clear hsl1 hsl2 hsl3 hsx1 hsx2 hsx3
          go_wp2_with (at_builtin; first
            | (refine BigFrame.wpList_want rfl fun K hK => ?_; refine op_append_all (Sh := intS) (.tmp 84) (.tmp 85) 44 rfl Tryd.underlying44 info_int rfl u11 k (Pk.secs ⟨1, b, c, 4⟩ 1 0 k) rfl HST8.out.s v1 n (Pk.secs ⟨1, b, c, 4⟩ 1 k n) rfl HV1.out hkn.1 hkn.2.1 ?_; intro v9 w9 hr9 hk9; refine hK _ _ ?_; have HR9 := Lib.hid hr9; have HK9 := Lib.hid hk9; have HX9 := Lib.hid (HX8.out.other hk9 (by decide) (by decide) 3); have HSL9 : Hid (SRow (fun x => paint col8 w8 w9 3 x = 4) 34 1 w9 u12 k (slS.flat sl) ∧ _) := ⟨HSL.out.1.other hk9 (by decide) 3, frs_other HSL.out.2 hk9 (by decide) 3⟩; have HSX9 : Hid (SRow (fun x => paint col8 w8 w9 3 x = 5) 34 1 w9 v2 n (slS.flat sx) ∧ _) := ⟨HSX.out.1.other hk9 (by decide) 3, frs_other HSX.out.2 hk9 (by decide) 3⟩; clear hr9 hk9 hK K)
            | (refine BigFrame.wpList_want rfl fun K hK => ?_; refine op_append_all (Sh := slS) (.tmp 87) (.tmp 88) 45 rfl Tryd.underlying45 info_sl rfl u12 k sl rfl HSL9.out.1 v2 n sx rfl HSX9.out.1 hkn.1 hkn.2.2 ?_; intro v10 w10 hr10 hk10; refine hK _ _ ?_; have HR10 := Lib.hid hr10; have HK10 := Lib.hid hk10; clear hr10 hk10 hK K))
          rw [HSS.out] at HR9
          have HST9 := Lib.hid (HST8.out.onS HR9.out HK9.out)
          have HST10 := Lib.hid (HST9.out.onF HR10.out HK10.out HSL9.out.1 HSL9.out.2 HX9.out HSX9.out.2)
          rw [HFF.out] at HST10
          clear HST8 HST9 HR9 HK9 HR10 HK10 HX8 HX9 HSL HSX HSL9 HSX9 HV1
          generalize paint (paint col8 w8 w9 3) w9 w10 4 = col9 at *
          go_wp2
          go_roundw
          case rel => exact ⟨i + 1, k + n, st', col9, by go_num, by omega, HST10.out, HFIT8.out⟩
          case measure => simp [Go.RowKit.intOf]; omega
end Go.Proofs.YtjmhnbohojdodaaDoor
