/-
  The walk of the statement on calls beside a list of expiries.
-/
import Derived.Test.YtkhmimdigdjajaaExScript
set_option maxRecDepth 100000
namespace Go.Proofs.Ytkhmimdigdjajaa
open Go.RowKit Go.Maps
set_option maxHeartbeats 8000000 in
theorem exscript_any (A : Option Addr) (n cap : Nat) (l : List QOp) (w : World) (hs : SlIs A n cap) (hl : Hid (l.length = n)) (hb : Hid (Arr qopS w 0 w.heap.size A l)) :
    Calls Try.prog 3 #[.slice A n cap] w fun e w' => e = .returned (.bool true) ∧ Below w.heap.size w w' := by
  have hcap := hs.2.2
  have hnc := hs.2.1
  obtain ⟨B, hB⟩ : ∃ B, w.heap.size = B := ⟨_, rfl⟩
  have CN := Lib.hid (exnew_any w)
  have HB := Lib.hid hB
  rw [hB] at hb CN
  rw [hB]
  clear hB
  have HZ : Hid (∀ W, Below B w W → B ≤ W.heap.size) := fun W h => HB.out ▸ h.size
  have HM1 : Hid (∀ W W', Below B w W → Below W.heap.size W W' → Below B w W') := fun W W' h h' => h.trans (h'.mono (HZ.out W h))
  go_enter Try.func3, Try.ntmps3
  go_wp2_with fail
  refine CN.out.mono ?_
  rintro e w1 ⟨rfl, hb1, hz1, hT1⟩
  have HL2 : Hid (Below w1.heap.size w1 (w1.alloc (.cells #[.slice none 0 0] 28))) := (Below.refl _ _).alloc (Nat.le_refl _) _
  have HX2 := Lib.hid (heap_alloc_new w1 (.cells #[.slice none 0 0] 28))
  have HB2 := Lib.hid (HM1.out _ _ hb1 HL2.out)
  have HS2 : Hid (ZSt B (w1.alloc (.cells #[.slice none 0 0] 28)) B w1.heap.size (fun k => k = B) (fun k => k = w1.heap.size) 0 [] []) :=
    ⟨⟨fun k h => ⟨by rw [h]; exact Nat.le_refl _, by rw [h]; exact Nat.lt_of_lt_of_le hT1.lt HL2.out.size⟩, hT1.next HL2.out⟩, fun k h => ⟨by rw [h]; exact HZ.out _ hb1, by rw [h]; exact (Array.getElem?_eq_some_iff.1 HX2.out).1⟩, fun k h h' => by have := hT1.lt; omega, ⟨none, 0, rfl, HX2.out, ⟨fun _ => ⟨rfl, rfl⟩, Nat.le_refl _, by decide⟩, .inl rfl⟩⟩
  clear hb1 hT1 HL2 HX2 CN hz1
  go_upto_region 2 with fail
  generalize w1.alloc (.cells #[.slice none 0 0] 28) = w2 at *
  generalize w1.heap.size = m at *
  go_wp2_with fail
  go_loopw [5] (fun iv wr => ∃ k : Nat, k ≤ n ∧ k ≤ 50 ∧ iv = .int .i64 (k : Int) ∧ Hid (∃ S R L, ZSt B wr B m S R k L L ∧ Ex.Ks L) ∧ Hid (Below B w wr)) (fun i _ => n - (Go.RowKit.intOf i).toNat)
  case atStart => exact ⟨0, Nat.zero_le _, Nat.zero_le _, rfl, ⟨_, _, [], HS2.out, List.Pairwise.nil⟩, HB2⟩
  case round =>
    clear HS2 HB2
    obtain ⟨k, hk, hk2, rfl, hstt, hbel⟩ := hrel
    obtain ⟨S, R, L, hst, hks⟩ := hstt.out
    have hst := Lib.hid hst
    have HKS := Lib.hid hks
    clear hstt hks
    by_cases hlt : k < n ∧ k < 50
    · obtain ⟨hlt, hlt2⟩ := hlt
      have hd0 : decide ((k : Int) < 50) = true := decide_eq_true (by omega)
      obtain ⟨ad, rfl⟩ := hb.out.some (k := k) (by rw [hl.out]; exact hlt)
      obtain ⟨p, hp⟩ : ∃ p, l.getD k qopS.z = p := ⟨_, rfl⟩
      obtain ⟨m0, m1, m2⟩ := qops_at (hb.out.below hbel.out (Nat.le_refl _)) k (by rw [hl.out]; exact hlt) _ hp
      obtain ⟨i, hi⟩ : ∃ i, i = min p.k.size 10 := ⟨_, rfl⟩
      have hmi : min (p.k.size : Int) 10 = (i : Int) := by omega
      have hmi2 : (if (10 : Int) < (p.k.size : Int) then (10 : Int) else (p.k.size : Int)) = (i : Int) := by split <;> omega
      have hm1 : i ≤ p.k.size := by omega
      have hcut : p.k.extract 0 i = ten p.k := by rw [hi]; rfl
      have HTS := Lib.hid (ten_size p.k)
      obtain ⟨kd, nn, ks⟩ := p
      simp only at m0 m1 m2 hmi hmi2 hm1 hcut HTS
      clear hp hi
      go_upto_region 6 with fail
      clear m0 m1 m2
      have HL1 : Hid (Below wr.heap.size wr (wr.alloc (.cells #[.int .i64 kd, .int .i64 nn, .string ks] 30))) := (Below.refl _ _).alloc (Nat.le_refl _) _
      have HX1 := Lib.hid (heap_alloc_new wr (.cells #[.int .i64 kd, .int .i64 nn, .string ks] 30))
      obtain ⟨ob, hob⟩ : ∃ ob, wr.heap.size = ob := ⟨_, rfl⟩
      rw [hob] at HX1 HL1
      have HOBS : Hid (¬ S ob ∧ ¬ R ob) := ⟨fun h => by have := (hst.out.s.s _ h).2; omega, fun h => by have := (hst.out.r _ h).2; omega⟩
      have HOB := Lib.hid hob
      rw [hob]
      generalize wr.alloc (.cells #[.int .i64 kd, .int .i64 nn, .string ks] 30) = w1 at *
      clear hob
      obtain ⟨x0, x1, x2⟩ := nd3_cells HX1.out
      have f3 : w1.frozen? ⟨ob, 2, none⟩ = false := frozen_of_row w1 ob _ _ _ HX1.out
      go_upto_region 7 with fail
      clear x0 x1 x2 f3 hmi hmi2 hm1 hcut
      have HX2 : Hid ((w1.setCell ⟨ob, 2, none⟩ (.string (ten ks))).heap[ob]? = some (.cells #[.int .i64 kd, .int .i64 nn, .string (ten ks)] 30 (0, 0))) := set_at (cs := [.int .i64 kd, .int .i64 nn, .string ks]) HX1.out 2 _
      have HL2 : Hid (Below wr.heap.size wr (w1.setCell ⟨ob, 2, none⟩ (.string (ten ks)))) := by
        have h2 : Kept (fun j => j = ob) w1 (w1.setCell ⟨ob, 2, none⟩ (.string (ten ks))) := Kept.setCell _ ⟨ob, 2, none⟩ _ rfl
        show Below _ _ _
        rw [HOB.out]
        exact HL1.out.trans (h2.below (by have := HOB.out; have := HL1.out.size; omega) fun j e => Nat.le_of_eq e.symm)
      generalize ten ks = ky at *
      generalize w1.setCell ⟨ob, 2, none⟩ (.string ky) = w2 at *
      have HO2 : Hid (ZOb w2 S R ob (.cells #[.int .i64 kd, .int .i64 nn, .string ky] 30 (0, 0))) := ⟨HX2.out, HOBS.out⟩
      have HS2 := Lib.hid (hst.out.next HL2.out)
      have HB2 := Lib.hid (HM1.out _ _ hbel.out HL2.out)
      clear HL1 HX1 HL2 HX2 HOB HOBS hst hbel
      obtain ⟨x0, x1, x2⟩ := nd3_cells HO2.out.1
      have HLL : Hid (L.length ≤ k) := HS2.out.s.t.length
      go_upto_block 2 with fail
      clear x0 x1 x2
      go_cut [3] (fun s3 wx => s3 = .pointer (some ⟨B, 0, none⟩) ∧ Hid (∃ S R L, ZSt B wx B m S R (k + 1) L L ∧ Ex.Ks L) ∧ Hid (Below B w wx))
      case first =>
        obtain ⟨x0, x1, x2⟩ := nd3_cells HO2.out.1
        have HZ2 := Lib.hid (HZ.out _ HB2.out)
        rcases (show kd = 0 ∨ kd = 1 ∨ (kd ≠ 0 ∧ kd ≠ 1) by omega) with h0 | h0 | ⟨h0, h1⟩
        · subst h0
          go_wp2_with fail
          refine (exput_any k B ky nn L S w2 (by omega) HTS.out (Lib.hid HS2.out.s.t)).mono ?_
          rintro e w3 ⟨rfl, hk3, hT3⟩
          have HS3 := Lib.hid (HS2.out.add HZ2.out hk3 hT3)
          have HB3 := Lib.hid (HB2.out.trans (HS2.out.belowS HZ2.out hk3))
          have HO3 := Lib.hid (HO2.out.add hk3)
          generalize Snc S w2 w3 = S3 at *
          clear hk3 hT3 HS2 HB2 HO2 HZ2 x0 x1 x2
          obtain ⟨x0, x1, x2⟩ := nd3_cells HO3.out.1
          go_wp2_with fail
          refine (refqput_any m ky nn L R w3 (by have := HLL.out; omega) HKS (Lib.hid HS3.out.f)).mono ?_
          rintro e w4 ⟨rfl, hk4, hf4⟩
          have HS4 := Lib.hid (HS3.out.ref (HZ.out _ HB3.out) hk4 hf4)
          have HB4 := Lib.hid (HB3.out.trans (HS3.out.belowR (HZ.out _ HB3.out) hk4))
          clear hk4 hf4 HS3 HB3 HO3 x0 x1 x2
          go_wp2_with fail
          go_meet
          exact ⟨rfl, ⟨_, _, _, HS4.out, Ex.ks_put HKS.out _ _⟩, HB4⟩
        · subst h0
          go_wp2_with fail
          refine (exqremove_any k B ky L S w2 (by omega) HTS.out (Lib.hid HS2.out.s.t)).mono ?_
          rintro e w3 ⟨rfl, hk3, hT3, -, -⟩
          have HS3 := Lib.hid (HS2.out.same hk3 hT3)
          have HB3 := Lib.hid (HB2.out.trans (HS2.out.belowS HZ2.out hk3))
          have HO3 := Lib.hid (HO2.out.same hk3)
          clear hk3 hT3 HS2 HB2 HO2 HZ2 x0 x1 x2
          obtain ⟨x0, x1, x2⟩ := nd3_cells HO3.out.1
          go_wp2_with fail
          refine (refqrem_any m ky L R w3 (by have := HLL.out; omega) HKS (Lib.hid HS3.out.f)).mono ?_
          rintro e w4 ⟨rfl, hk4, hf4⟩
          have HS4 := Lib.hid (HS3.out.ref (HZ.out _ HB3.out) hk4 hf4)
          have HB4 := Lib.hid (HB3.out.trans (HS3.out.belowR (HZ.out _ HB3.out) hk4))
          clear hk4 hf4 HS3 HB3 HO3 x0 x1 x2
          go_wp2_with fail
          go_meet
          exact ⟨rfl, ⟨_, _, _, HS4.out.more, Ex.ks_rem HKS.out _⟩, HB4⟩
        · have hb0 : (kd == 0) = false := beq_eq_false_iff_ne.2 h0
          have hb1 : (kd == 1) = false := beq_eq_false_iff_ne.2 h1
          clear h0 h1
          have HDR : Hid (Below w2.heap.size w2 w2.drew) := ⟨rfl, rfl, rfl, Nat.le_refl _, fun _ _ => rfl⟩
          have HSa := Lib.hid (HS2.out.next HDR.out)
          have HBa := Lib.hid (HM1.out _ _ HB2.out HDR.out)
          have HOa := Lib.hid (HO2.out.next HDR.out)
          have HSD : Hid (∀ j, S j → j < w2.drew.heap.size) := fun j h => (HSa.out.s.s j h).2
          have HRD : Hid (∀ j, R j → j < w2.drew.heap.size) := fun j h => (HSa.out.r j h).2
          have HKL : Hid (Ex.Ks (Ex.left nn L)) := HKS.out.sublist ((List.dropWhile_sublist _).map _)
          clear HDR HS2 HB2 HO2 HZ2
          go_upto_region 8 with fail
          clear x0 x1 x2
          refine wp_region_held_drew (S := fun W => W.cell? ⟨ob, 1, none⟩ = some (.int .i64 nn)) (by kernel_rfl) ((nd3_cells HOa.out.1).2.1) (fun hH => ?_)
          change wpAnyH _ _ _ _ _ 10 #[false, false, false, false, false, false, false, false, false, false] _ _
          clear hH
          generalize w2.drew = wa at *
          refine held_take (i := 0) (v := ?_) (d := some 37) rfl rfl (by kernel_rfl) (by kernel_rfl) (by kernel_rfl) (fun _ _ _ h => h) ((nd3_cells HOa.out.1).2.1) ⟨?_, fun w hSw => ?_⟩ ?_
          rotate_left 1
          · rfl
          · (go_simp; all_goals with_reducible rfl)
          simp only [Act.put, List.setIfInBounds_toArray, List.set_cons_zero, List.set_cons_succ]
          refine held_take (i := 1) (v := ?_) (d := some 38) rfl rfl (by kernel_rfl) (by kernel_rfl) (by kernel_rfl) (fun _ _ _ h => h) ((nd3_cells HOa.out.1).2.1) ⟨?_, fun w hSw => ?_⟩ ?_
          rotate_left 1
          · rfl
          · (go_simp; all_goals with_reducible rfl)
          simp only [Act.put, List.setIfInBounds_toArray, List.set_cons_zero, List.set_cons_succ]
          refine held_take (i := 2) (v := ?_) (d := some 39) rfl rfl (by kernel_rfl) (by kernel_rfl) (by kernel_rfl) (fun _ _ _ h => h) ((nd3_cells HOa.out.1).2.1) ⟨?_, fun w hSw => ?_⟩ ?_
          rotate_left 1
          · rfl
          · have y1 := hSw
            (go_simp; all_goals with_reducible rfl)
          simp only [Act.put, List.setIfInBounds_toArray, List.set_cons_zero, List.set_cons_succ]
          refine held_take (i := 4) (v := ?_) (d := some 41) rfl rfl (by kernel_rfl) (by kernel_rfl) (by kernel_rfl) (fun _ _ _ h => h) ((nd3_cells HOa.out.1).2.1) ⟨?_, fun w hSw => ?_⟩ ?_
          rotate_left 1
          · rfl
          · (go_simp; all_goals with_reducible rfl)
          simp only [Act.put, List.setIfInBounds_toArray, List.set_cons_zero, List.set_cons_succ]
          refine held_take (i := 5) (v := ?_) (d := some 42) rfl rfl (by kernel_rfl) (by kernel_rfl) (by kernel_rfl) (fun _ _ _ h => h) ((nd3_cells HOa.out.1).2.1) ⟨?_, fun w hSw => ?_⟩ ?_
          rotate_left 1
          · rfl
          · (go_simp; all_goals with_reducible rfl)
          simp only [Act.put, List.setIfInBounds_toArray, List.set_cons_zero, List.set_cons_succ]
          refine held_take (i := 6) (v := ?_) (d := some 43) rfl rfl (by kernel_rfl) (by kernel_rfl) (by kernel_rfl) (fun _ _ _ h => h) ((nd3_cells HOa.out.1).2.1) ⟨?_, fun w hSw => ?_⟩ ?_
          rotate_left 1
          · rfl
          · have y1 := hSw
            (go_simp; all_goals with_reducible rfl)
          simp only [Act.put, List.setIfInBounds_toArray, List.set_cons_zero, List.set_cons_succ]
          refine held_step (i := 3) rfl (by kernel_rfl) ?_ (fun K hK => ?_)
          · rfl
          go_simp
          refine (exdue_any k B nn L S wa (by omega) (Lib.hid HSa.out.s.t)).mono ?_
          rintro e w1x ⟨v1, rfl, hr1, hk1, hT1⟩
          have HS1 := Lib.hid (HSa.out.same hk1 hT1)
          have HB1 := Lib.hid (HBa.out.trans (HSa.out.belowS (HZ.out _ HBa.out) hk1))
          have HO1 := Lib.hid (HOa.out.same hk1)
          obtain ⟨A1, c1, rfl, hsl1, harr1⟩ := hr1.open_
          have HA1 := Lib.hid harr1
          have HG1 : Hid (wa.heap.size ≤ wa.heap.size) := Nat.le_refl _
          have HE1 : Hid (wa.heap.size ≤ w1x.heap.size) := Nat.le_trans HG1.out hk1.size
          clear hr1 hk1 hT1 hsl1 harr1
          refine hK _ _ ((nd3_cells HO1.out.1).2.1) ?_
          clear hK K
          simp only [List.setIfInBounds_toArray, List.set_cons_zero, List.set_cons_succ]
          refine held_step (i := 7) rfl (by kernel_rfl) ?_ (fun K hK => ?_)
          · rfl
          go_simp
          refine (refqdue_any m nn L R w1x (by have := HLL.out; omega) (Lib.hid HS1.out.f)).mono ?_
          rintro e w2x ⟨v2, rfl, hr2, hk2, hT2⟩
          have HS2 := Lib.hid (HS1.out.refsame hk2 hT2)
          have HB2 := Lib.hid (HB1.out.trans (HS1.out.belowR (HZ.out _ HB1.out) hk2))
          have HO2 := Lib.hid (HO1.out.refsame hk2)
          obtain ⟨A2, c2, rfl, hsl2, harr2⟩ := hr2.open_
          have HA2 := Lib.hid harr2
          have HAq : Hid (Arr strS w2x wa.heap.size w1x.heap.size A1 (Ex.keys (Ex.due nn L))) := HA1.out.kept hk2 (Nat.le_refl _) fun j h1 _ h2 => by have := (HRD.out j h2); have := HG1.out; omega
          have HG2 : Hid (wa.heap.size ≤ w1x.heap.size) := HE1.out
          have HE2 : Hid (wa.heap.size ≤ w2x.heap.size) := Nat.le_trans HG2.out hk2.size
          clear hr2 hk2 hT2 hsl2 harr2
          refine hK _ _ ((nd3_cells HO2.out.1).2.1) ?_
          clear hK K
          simp only [List.setIfInBounds_toArray, List.set_cons_zero, List.set_cons_succ]
          refine held_step (i := 8) rfl (by kernel_rfl) ?_ (fun K hK => ?_)
          · rfl
          go_simp
          have hle3 : (Ex.keys (Ex.due nn L)).length ≤ 140737488355328 := by have := HLL.out; have := Ex.due_length nn L; unfold Ex.keys; rw [List.length_map]; omega
          refine (exstrings_any A1 A2 _ _ _ _ _ c1 c2 (Ex.keys (Ex.due nn L)) w2x rfl hle3 HAq HA2).mono ?_
          rintro e w3x ⟨rfl, hb3⟩
          have HS3 := Lib.hid (HS2.out.next hb3)
          have HB3 := Lib.hid (HM1.out _ _ HB2.out hb3)
          have HO3 := Lib.hid (HO2.out.next hb3)
          clear hb3 hle3
          refine hK _ _ ((nd3_cells HO3.out.1).2.1) ?_
          clear hK K
          simp only [List.setIfInBounds_toArray, List.set_cons_zero, List.set_cons_succ]
          refine held_take (i := 9) (v := ?_) (d := some 46) rfl rfl (by kernel_rfl) (by kernel_rfl) (by kernel_rfl) (fun _ _ _ h => h) ((nd3_cells HO3.out.1).2.1) ⟨?_, fun w hSw => ?_⟩ ?_
          rotate_left 1
          · rfl
          · (go_simp; all_goals with_reducible rfl)
          simp only [Act.put, List.setIfInBounds_toArray, List.set_cons_zero, List.set_cons_succ]
          refine wpAnyH_done (by kernel_rfl) ?_ _
          go_wp2_with fail
          go_meet
          exact ⟨rfl, ⟨_, _, _, HS3.out.more, HKL.out⟩, HB3⟩
      case rest =>
        clear HS2 HB2 HO2 HKS HLL
        obtain ⟨rfl, hstt, hbel⟩ := hcut
        obtain ⟨S, R, L, hst, hks⟩ := hstt.out
        have hst := Lib.hid hst
        have HKS := Lib.hid hks
        clear hstt hks
        generalize wc = w3 at *
        have CX := Lib.hid (exnext_any (k + 1) B L S w3 (Lib.hid hst.out.s.t))
        go_wp2_with fail
        refine CX.out.mono ?_
        rintro e w4 ⟨rfl, rfl⟩
        obtain ⟨A, c, hRm, hm, hsl, hA⟩ := hst.out.f
        have c0 := one_cell_of hm
        obtain ⟨nL, hnL⟩ : ∃ nL, L.length = nL := ⟨_, rfl⟩
        have CL := Lib.hid (fun q => exlen_any (k + 1) B nL L S (w4.drewN q) (Lib.hid hnL) (Lib.hid (hst.out.s.t.next (below_drewN w4 q))))
        have hkL : nL ≤ 51 := by have := hst.out.s.t.length; omega
        rw [hnL] at c0 hsl
        have hsc := hsl.2.1
        have hscc := hsl.2.2
        have HNX : Hid (nxt L = nxt L) := rfl
        cases L with
        | nil =>
          obtain rfl : nL = 0 := hnL.symm
          clear hm hsl hA hRm CX hnL
          unfold nxt
          have h1 : ((0 : Nat) != 0) = false := rfl
          go_wp2_with fail
          go_quiet (first | (go_at_call 16; refine Calls.quiet_of_same (CL.out _)))
          have HSn : Hid (ZSt B (w4.drewN nq) B m S R (k + 1) [] []) := hst.out.next (below_drewN _ _)
          have HBn : Hid (Below B w (w4.drewN nq)) := below_drawn hbel.out _
          clear CL hst hbel c0
          generalize w4.drewN nq = w5 at *
          go_wp2_with fail
          go_roundw
          case rel => exact ⟨k + 1, by omega, by omega, by go_num, ⟨S, R, [], HSn.out, HKS.out⟩, HBn⟩
          case measure => simp [Go.RowKit.intOf]; omega
        | cons x L2 =>
          obtain ⟨kx, rx⟩ := x
          have hn0 : 0 < nL := by rw [← hnL, List.length_cons]; omega
          obtain ⟨g, o, rfl, hgl, -, -, hfl⟩ : ∃ g o, A = some ⟨g, o, none⟩ ∧ g < w4.heap.size ∧ R g ∧ g ≠ m ∧ FlAt w4 g o (onS.flat (⟨kx, rx⟩ :: L2)) := by
            rcases hA with h | h
            · have := (hsl.1 h).2; omega
            · exact h
          obtain ⟨-, m1⟩ := hfl.at_ 0 (Nat.succ_pos _) kx rx rfl
          rw [Nat.zero_mul, Nat.add_zero] at m1
          clear hm hsl hA hRm CX hnL hfl hgl
          unfold nxt
          have h1 : (nL != nL) = false := by simp
          have h2 : (rx != rx) = false := by simp
          go_wp2_with fail
          go_quiet (first | (go_at_call 16; refine Calls.quiet_of_same (CL.out _)))
          have HSn : Hid (ZSt B (w4.drewN nq) B m S R (k + 1) (⟨kx, rx⟩ :: L2) (⟨kx, rx⟩ :: L2)) := hst.out.next (below_drewN _ _)
          have HBn : Hid (Below B w (w4.drewN nq)) := below_drawn hbel.out _
          clear CL hst hbel c0
          generalize w4.drewN nq = w5 at *
          go_wp2_with fail
          go_roundw
          case rel => exact ⟨k + 1, by omega, by omega, by go_num, ⟨S, R, (⟨kx, rx⟩ :: L2), HSn.out, HKS.out⟩, HBn⟩
          case measure => simp [Go.RowKit.intOf]; omega
    · have hex : (k < n ∧ Hid (decide ((k : Int) < 50) = false)) ∨ (¬ k < n ∧ Hid True) := by
        rcases Nat.lt_or_ge k n with h | h
        · exact .inl ⟨h, decide_eq_false (by have : ¬ k < 50 := fun h2 => hlt ⟨h, h2⟩; omega)⟩
        · exact .inr ⟨by omega, trivial⟩
      clear hlt
      rcases hex with ⟨hlt, hd0⟩ | ⟨hlt, hd0⟩
      all_goals
        have hd1 := hd0.out
        clear hd0
        go_wp2_with fail
        refine (exawake_any wr).mono ?_
        rintro e w6 ⟨rfl, hb6⟩
        have HB6 := Lib.hid (HM1.out _ _ hbel.out hb6)
        clear hb6 hbel
        go_wp2_with fail
        go_ret
        exact ⟨rfl, HB6.out⟩
end Go.Proofs.Ytkhmimdigdjajaa
