/-
  The walk of the sanity check of layer 15.
-/
import Derived.Test.YtgnbmmceffolmaaGreatDoorFoldQ
import Derived.Test.YtgnbmmceffolmaaGreatDoorFoldR
set_option maxRecDepth 100000
namespace Go.Proofs.YtgnbmmceffolmaaGreatDoor
open Go.RowKit
theorem len_one {α β : Type} {f : α → β} {l : List α} {x : β} (h : l.map f = [x]) : ∃ a, l = [a] ∧ f a = x := by
  cases l with
  | nil => cases h
  | cons a t =>
    cases t with
    | nil => injection h with h; exact ⟨a, rfl, h⟩
    | cons b t => injection h with _ h; cases h
theorem found_len {w : World} {ds : List (Nat × Rc.Rec)} {e : Ending} {w' : World} (h : FoundIs w ds e w') : ∃ A c l, e = .returned (.slice A ds.length c) ∧ SlIs A ds.length c ∧ l.length = ds.length ∧ FdsAt w' w'.heap.size A l ∧ l.map Fd.says = ds.map Sc.say ∧ Below w.heap.size w w' := by
  obtain ⟨v, l, rfl, hr, hs, hb⟩ := h
  have e1 : l.length = ds.length := by have := congrArg List.length hs; rwa [List.length_map, List.length_map] at this
  obtain ⟨A, c, rfl, h1, h2⟩ := hr.open_
  rw [e1] at h1
  exact ⟨A, c, l, by rw [e1], h1, e1, h2, hs, hb⟩
set_option maxHeartbeats 4000000 in
theorem scawake_any (w : World) (ht : Hid (TabW w)) (hz : 0 < w.heap.size) : Calls Tryz.prog 8 #[] w fun e w' => e = .returned (.bool true) ∧ Below w.heap.size w w' := by
  have kc := fun (w : World) (C : Array Value) (n c : Nat) => Lib.run_convert_bytes_const (P := Tryz.prog) w 27 5 C n c Tryz.underlying27 Tryz.underlying5
  have HNEW := Lib.hid (new_dev 100 100 rfl w (by decide) (by decide))
  have HLAY : Hid (∀ W, Calls Tryz.prog 12 #[.int .i64 0, .int .i64 1] W fun e w' => e = .returned (.agg #[.int .i64 3, .int .i64 1, .int .i64 4, .int .i64 4]) ∧ Below W.heap.size W w') := fun W => rglayout_at 0 1 0 1 (by decide) (by decide) (by decide) (by decide) W
  unfold NewDev at HNEW
  go_enter Tryz.func8, Tryz.ntmps8
  go_wp2_with fail
  refine HNEW.out.mono ?_
  rintro e w1 ⟨gd, cd, md, rfl, hd1, hnew, hb1⟩
  have HB1 := Lib.hid hb1
  have HD1 := Lib.hid hd1
  have HNW := Lib.hid hnew
  clear hb1 hd1 hnew HNEW
  go_wp2_with fail
  refine (HLAY.out _).mono ?_
  rintro e w2 ⟨rfl, hb2⟩
  have HB2 := Lib.hid (HB1.out.trans (hb2.mono HB1.out.size))
  have HD2 := Lib.hid (HD1.out.on hb2)
  have HLT2 : Hid (∀ k, devS gd cd md k → k < w2.heap.size) := fun k hk => by
    have := HD2.out.lt
    unfold devS at hk
    omega
  clear hb2 HB1 HD1 HLAY
  go_upto_region 3 with fail
  have HX3 := Lib.hid (heap_alloc_new w2 (.cells #[.int .i64 3, .int .i64 1, .int .i64 4, .int .i64 4] 29))
  have HB3 : Hid (Below w.heap.size w (w2.alloc (.cells #[.int .i64 3, .int .i64 1, .int .i64 4, .int .i64 4] 29))) := HB2.out.alloc HB2.out.size _
  have HD3 : Hid (Dev (w2.alloc (.cells #[.int .i64 3, .int .i64 1, .int .i64 4, .int .i64 4] 29)) gd cd md 100 (Flash.fresh (List.replicate (100 * 64) 0))) := HD2.out.on ((Below.refl _ w2).alloc (Nat.le_refl _) _)
  generalize w2.alloc (.cells #[.int .i64 3, .int .i64 1, .int .i64 4, .int .i64 4] 29) = w3 at *
  have HQ3 : Hid (w2.heap.size < w3.heap.size) := (Array.getElem?_eq_some_iff.1 HX3.out).1
  generalize w2.heap.size = q3 at *
  obtain ⟨z0, z1, z2, z3⟩ := four_cells HX3.out
  have HPL := Lib.hid (Sc.holds_begun (n := 100) (b := Hd.enc (Gm.spot ⟨3, 1, 4, 4⟩ 1) ⟨1, 1, 3, 5, 5, 0⟩) rg_ok (by decide) (Hd.enc_length _ _))
  go_wp2_with fail
  refine (rgopen_any (W := w) 3 1 4 4 1 1 3 5 5 0 HB3 HNW HD3 (Lib.hid (ht.out.below HB3.out hz)) (Nat.lt_of_lt_of_le hz HB3.out.size) (by decide)).mono ?_
  intro e w4 ho
  rcases ho with ⟨h, -⟩ | ⟨-, h, -⟩ | ⟨-, -, r, gp, cl, rfl, hst, hk4, hcl⟩
  · exact absurd rg_may h
  · exact absurd HPL.out.1 h
  have HFR4 : Hid (Free cl w4 q3 (.cells #[.int .i64 3, .int .i64 1, .int .i64 4, .int .i64 4] 29 (0, 0))) := ⟨(hk4.block q3 HQ3.out fun e => Nat.lt_irrefl _ (HLT2.out q3 e)).trans HX3.out, Decidable.byContradiction fun hc => by
    rcases hcl q3 hc with h | h
    · exact Nat.lt_irrefl _ (HLT2.out q3 h)
    · have := HQ3.out; omega⟩
  have HW1 : Hid ((Rg.begun (Flash.fresh (List.replicate (100 * 64) 0)) 100 (Gm.spot ⟨3, 1, 4, 4⟩ 1) (Hd.enc (Gm.spot ⟨3, 1, 4, 4⟩ 1) ⟨1, 1, 3, 5, 5, 0⟩)).1.wr = 1) := (Rg.begun_plain (plain_fresh (List.replicate (100 * 64) 0)) (n := 100) (by decide) (by rw [Hd.enc_length]; decide)).2.2.1
  generalize Rg.begun (Flash.fresh (List.replicate (100 * 64) 0)) 100 (Gm.spot ⟨3, 1, 4, 4⟩ 1) (Hd.enc (Gm.spot ⟨3, 1, 4, 4⟩ 1) ⟨1, 1, 3, 5, 5, 0⟩) = R at *
  obtain ⟨f1, x1⟩ := R
  simp only at hst
  have HST4 := Lib.hid hst
  have HH1 : Hid (Sc.Holds ⟨3, 1, 4, 4⟩ 1 5 (Hd.enc (Gm.spot ⟨3, 1, 4, 4⟩ 1) ⟨1, 1, 3, 5, 5, 0⟩) [] 0 100 f1) := HPL.out.2
  clear hst HPL z0 z1 z2 z3 HX3 HD2 HD3 HB2 hk4 hcl HLT2 HQ3
  have HBA : Hid (Below w4.heap.size w4 (w4.alloc (.cells #[.int .u8 107] 5 (1, 2)))) := (Below.refl _ w4).alloc (Nat.le_refl _) _
  have HRI : Hid (RecIn (w4.alloc (.cells #[.int .u8 107] 5 (1, 2))) (w4.heap.size + 1) (some ⟨w4.heap.size, 0, none⟩) none 1 1 0 0 [107] []) := ⟨⟨⟨(fun e => by cases e), Nat.le_refl _, by decide⟩, rfl, bs_one w4 107 (by decide) _⟩, none_in _ _⟩
  have HFIT : Hid (Pk.Fit ⟨3, 1, 4, 4⟩ 1 5 [] (Pk.full [])) := Pk.Fit.start rg_ok
  have HFIT2 : Hid (Pk.Fit ⟨3, 1, 4, 4⟩ 1 5 (Pk.put ⟨3, 1, 4, 4⟩ 5 [] ⟨2, [107], [], 0⟩) (Pk.full (Pk.put ⟨3, 1, 4, 4⟩ 5 [] ⟨2, [107], [], 0⟩))) := (HFIT.out.put ⟨2, [107], [], 0⟩ (by decide) (by decide)).take (Nat.le_refl _)
  have HAF := Lib.hid (HH1.out.after (Pk.put_more _ _ _ _) HFIT2.out)
  have HBU : Hid (Sc.Built 1 5 (Pk.put ⟨3, 1, 4, 4⟩ 5 [] ⟨2, [107], [], 0⟩) [(0, ⟨2, [107], [], 0⟩)]) := by
    have h := Sc.Built.puts (l := ⟨3, 1, 4, 4⟩) (seq := 5) Sc.Built.start HFIT.out ⟨2, [107], [], 0⟩
    unfold Sc.puts at h
    rw [if_pos rg_err] at h
    exact h
  have HWA : Hid ((Rg.after ⟨3, 1, 4, 4⟩ 1 5 f1 100 [] (Pk.put ⟨3, 1, 4, 4⟩ 5 [] ⟨2, [107], [], 0⟩)).1.wr < 4000000000000000000) := by
    have h := Rg.after_plain (n := 100) (fs := f1) (st := []) HH1.out.plain HFIT2.out (by decide) (Rg.full_put _ _ _ _)
    have h2 := Pk.full_le HFIT2.out
    have h3 := HW1.out
    simp only at h3
    show _ < _
    omega
  go_wp2_with fail
  refine (rgappend_any 2 0 [107] [] (some ⟨w4.heap.size, 0, none⟩) none (w4.heap.size + 1) 1 1 0 0 (by simp) HRI (Lib.hid (HST4.out.new HBA.out)) HFIT.out ht hz (by rw [HW1.out]; decide)).mono ?_
  rintro e w5 ⟨rfl, c5, hst5, hw5⟩
  have HFR5 := Lib.hid (Free.went (HFR4.out.new HBA.out) hw5)
  rw [rg_err, HAF.out.1, show Rg.pos 0 0 (([] : List Nat).length : Int) = 0 from rfl, show Rg.pos 0 0 ((Rc.len ⟨2, [107], [], 0⟩ : Nat) : Int) = 17 from rfl, show Rg.worst 0 0 = 0 from rfl]
  generalize Rg.after ⟨3, 1, 4, 4⟩ 1 5 f1 100 [] (Pk.put ⟨3, 1, 4, 4⟩ 5 [] ⟨2, [107], [], 0⟩) = R at *
  obtain ⟨f2, x2⟩ := R
  generalize Pk.put ⟨3, 1, 4, 4⟩ 5 [] ⟨2, [107], [], 0⟩ = s2 at *
  have HH2 := Lib.hid HAF.out.2
  simp only at hst5
  have HST5 := Lib.hid hst5
  have HSY := Lib.hid HH2.out.syncd
  have HBP := Lib.hid HBU.out.pad
  clear hst5 hw5 HAF HRI HBA HFIT HFR4 HST4 HH1
  go_wp2_with fail
  refine (rgsync_any HST5 HFIT2.out ht hz HWA.out).mono ?_
  rintro e w6 ⟨rfl, c6, hst6, hw6⟩
  rw [HSY.out.1]
  have HFR6 := Lib.hid (Free.went HFR5.out hw6)
  have HD6 := Lib.hid hst6.d
  have HB6 := Lib.hid hst6.up
  have HH6 := Lib.hid HSY.out.2
  generalize Rg.syncFs (Rg.after ⟨3, 1, 4, 4⟩ 1 5 f2 100 s2 (Pk.pad s2)) = f6 at *
  clear hst6 hw6 HSY HFR5 HST5 HFIT2 HH2 HBU
  have HHD : Hid (Sc.head f6.seen ⟨3, 1, 4, 4⟩ 1 = some ⟨1, 1, 3, 5, 5, 0⟩) := HH6.out.header (by decide) ⟨rfl, rfl, rfl⟩
  have HRG : Hid (Sc.region f6.seen ⟨3, 1, 4, 4⟩ 1 5 = [(0, ⟨2, [107], [], 0⟩)]) := HH6.out.region HBP.out (Pk.pad_mod _)
  have HNO : Hid (Sc.region f6.seen ⟨3, 1, 4, 4⟩ 1 6 = []) := HH6.out.none (by decide) (by decide) (by decide)
  have CH : Hid (∀ W, Below w6.heap.size w6 W → Calls Tryz.prog 6 #[.pointer (some ⟨gd, 0, none⟩), .agg #[.int .i64 3, .int .i64 1, .int .i64 4, .int .i64 4], .int .i64 1] W fun e w' => e = .returned (.tuple #[.agg #[.int .i64 1, .int .i64 1, .int .i64 3, .int .i64 5, .int .i64 5, .int .i64 0], .bool true]) ∧ Below W.heap.size W w') := fun W hW =>
    (scheader_any 3 1 4 4 1 W (Lib.hid (HD6.out.on hW)) (ht.out.below (HB6.out.trans (hW.mono HB6.out.size)) hz) (Nat.lt_of_lt_of_le hz (HB6.out.trans (hW.mono HB6.out.size)).size)).mono fun e w' h => by
      rw [HHD.out] at h
      rcases h with ⟨H, e1, h⟩ | ⟨e1, -⟩
      · injection e1 with e1
        subst e1
        exact h
      · cases e1
  have CR : Hid (∀ W, Below w6.heap.size w6 W → Calls Tryz.prog 10 #[.pointer (some ⟨gd, 0, none⟩), .agg #[.int .i64 3, .int .i64 1, .int .i64 4, .int .i64 4], .int .i64 1, .int .i64 5] W fun e w' => ∃ g c, e = .returned (.slice (some g) 1 c) ∧ w'.cell? ⟨g.block, g.off + 1, none⟩ = some (.int .i64 17) ∧ Below W.heap.size W w') := fun W hW =>
    (scregion_any 3 1 4 4 1 5 W (Lib.hid (HD6.out.on hW)) (ht.out.below (HB6.out.trans (hW.mono HB6.out.size)) hz) (Nat.lt_of_lt_of_le hz (HB6.out.trans (hW.mono HB6.out.size)).size)).mono fun e w' h => by
      rw [HRG.out] at h
      obtain ⟨A, c, l, rfl, h1, h2, h3, h4, h5⟩ := found_len h
      obtain ⟨f, rfl, hf⟩ := len_one h4
      obtain ⟨g, rfl⟩ := h3.1.some (k := 0) Nat.zero_lt_one
      have hc := (fds_at h3.1 0 Nat.zero_lt_one f rfl).2.1
      have he : f.len = 17 := by
        have := congrArg (fun x => x.2.1) hf
        exact this
      rw [he] at hc
      refine ⟨g, c, rfl, ?_, h5⟩
      have e0 : g.add (0 * 6) = g := if_pos rfl
      rw [e0] at hc
      exact hc
  have CN : Hid (∀ W, Below w6.heap.size w6 W → Calls Tryz.prog 10 #[.pointer (some ⟨gd, 0, none⟩), .agg #[.int .i64 3, .int .i64 1, .int .i64 4, .int .i64 4], .int .i64 1, .int .i64 6] W fun e w' => ∃ A c, e = .returned (.slice A 0 c) ∧ Below W.heap.size W w') := fun W hW =>
    (scregion_any 3 1 4 4 1 6 W (Lib.hid (HD6.out.on hW)) (ht.out.below (HB6.out.trans (hW.mono HB6.out.size)) hz) (Nat.lt_of_lt_of_le hz (HB6.out.trans (hW.mono HB6.out.size)).size)).mono fun e w' h => by
      rw [HNO.out] at h
      obtain ⟨A, c, l, rfl, h1, h2, h3, h4, h5⟩ := found_len h
      exact ⟨A, c, rfl, h5⟩
  clear HHD HRG HNO HH6 HBP HD6
  have HQL := Lib.hid HFR6.out.1
  clear HFR6
  obtain ⟨z0, z1, z2, z3⟩ := four_cells HQL.out
  go_wp2_with fail
  refine (CH.out _ (Below.refl _ _)).mono ?_
  rintro e w7 ⟨rfl, hb7⟩
  have HA7 : Hid (Below w7.heap.size w7 (w7.alloc (.cells #[.int .i64 1, .int .i64 1, .int .i64 3, .int .i64 5, .int .i64 5, .int .i64 0] 35))) := (Below.refl _ _).alloc (Nat.le_refl _) _
  have HX7 := Lib.hid (heap_alloc_new w7 (.cells #[.int .i64 1, .int .i64 1, .int .i64 3, .int .i64 5, .int .i64 5, .int .i64 0] 35))
  have HB7 := Lib.hid (hb7.trans (HA7.out.mono hb7.size))
  have HQ7 := Lib.hid ((HB7.out.block q3 (Array.getElem?_eq_some_iff.1 HQL.out).1).trans HQL.out)
  clear hb7 HA7 z0 z1 z2 z3
  go_upto_region 10 with fail
  generalize w7.alloc (.cells #[.int .i64 1, .int .i64 1, .int .i64 3, .int .i64 5, .int .i64 5, .int .i64 0] 35) = w8 at *
  generalize w7.heap.size = q8 at *
  obtain ⟨z0, z1, z2, z3⟩ := four_cells HQ7.out
  go_wp2_with fail
  refine (CR.out _ HB7.out).mono ?_
  rintro e w9 ⟨g9, c9, rfl, hc9, hb9⟩
  have HB9 := Lib.hid (HB7.out.trans (hb9.mono HB7.out.size))
  have HX9 := Lib.hid ((hb9.block q8 (Array.getElem?_eq_some_iff.1 HX7.out).1).trans HX7.out)
  have HQ9 := Lib.hid ((HB9.out.block q3 (Array.getElem?_eq_some_iff.1 HQL.out).1).trans HQL.out)
  clear hb9 z0 z1 z2 z3 HB7 HX7 HQ7
  obtain ⟨z0, z1, z2, z3⟩ := four_cells HQ9.out
  obtain ⟨y0, y1, y2, y3, y4, y5⟩ := six_cells HX9.out
  go_wp2_with fail
  refine (CN.out _ HB9.out).mono ?_
  rintro e w10 ⟨A10, c10, rfl, hb10⟩
  have HB10 := Lib.hid (HB6.out.trans ((HB9.out.trans (hb10.mono HB9.out.size)).mono HB6.out.size))
  clear hb10
  go_wp2_with fail
  go_ret
  exact ⟨rfl, HB10.out⟩
end Go.Proofs.YtgnbmmceffolmaaGreatDoor
