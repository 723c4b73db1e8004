/-
  The walk of the law's Short.
-/
import Derived.Test.YtcdomlgnfbdeoaaRpShort
import Derived.Test.YtcdomlgnfbdeoaaSetAt
import Derived.BigQuiet
import Derived.IntWalk
import Derived.Deep.DeepCutAuto
import Derived.Deep.CutBlock
import Derived.Deep.RegionHeld3
set_option maxRecDepth 100000
namespace Go.Proofs.Ytcdomlgnfbdeoaa
open Go.RowKit
section
variable {P : Program} {md : Region.Mode} {ops : Array Oper} {Q : Exit → Act → World → Prop} {S : World → Prop}
/-- The two that may come up are carried out, each in its turn. -/
theorem held_two {i j : Nat} {oi oj : Oper} {n : Nat} {ls : Array Bool} {a : Act} {w : World} (hi : ops[i]? = some oi) (hj : ops[j]? = some oj) (hr : Region.ready md ops ls = [i, j]) (hw : Region.wanted oi (yielded ops a.tmps) = true) (hw2 : Region.wanted oj (yielded ops a.tmps) = true)
    (h : ∀ K : Act → World → Prop, (∀ b u, S u → wpAnyH P md ops Q S n (ls.setIfInBounds i true) b u → K b u) → Oper.wp P oi a w K Q)
    (h2 : ∀ K : Act → World → Prop, (∀ b u, S u → wpAnyH P md ops Q S n (ls.setIfInBounds j true) b u → K b u) → Oper.wp P oj a w K Q) : wpAnyH P md ops Q S (n + 1) ls a w := by
  refine ⟨fun e => (by rw [hr] at e; cases e), fun k hk => ?_⟩
  rw [hr] at hk
  rcases List.mem_cons.1 hk with rfl | hk
  · refine wpOp_step hi fun K hK => ?_
    rw [if_pos hw]
    exact h K fun b u hS hb => hK b u ⟨hS, hb⟩
  · obtain rfl : k = j := by simpa using hk
    refine wpOp_step hj fun K hK => ?_
    rw [if_pos hw2]
    exact h2 K fun b u hS hb => hK b u ⟨hS, hb⟩
end
/-- What Short answers. -/
def ShortIs (w : World) (e : Ending) (w' : World) : Prop := ∃ av bv l', e = .returned (.tuple #[av, bv]) ∧ ShSt w.heap.size w' av bv l' l' l' ∧ l'.length ≤ 5 ∧ Below w.heap.size w w'
set_option maxHeartbeats 4000000 in
theorem short22_any (A : Option Addr) (n cap : Nat) (l : List Bt) (w : World) (hs : SlIs A n cap) (hn : Hid (l.length = n)) (hb : Hid (BtsAt w w.heap.size A l)) :
    Calls Try.prog 7 #[.slice A n cap] w (ShortIs w) := by
  have hcap := hs.2.2
  have hnc := hs.2.1
  go_enter Try.func7, Try.ntmps7
  go_wp2_with fail
  go_loopw [4, 5, 6] (fun av bv iv wr => ∃ (K : Nat) (l' : List Bt), K ≤ 5 ∧ K ≤ n ∧ iv = .int .i64 (K : Int) ∧ l'.length = K ∧ Hid (ShSt w.heap.size wr av bv l' l' l') ∧ Hid (Below w.heap.size w wr)) (fun _ _ i _ => 5 - (intOf i).toNat)
  case atStart => exact ⟨0, [], by omega, Nat.zero_le _, rfl, rfl, ShSt.nil _ _, Below.refl _ _⟩
  case round =>
    obtain ⟨K, l', hK5, hKn, rfl, hl', HST, HB⟩ := hrel
    generalize wr = wo at *
    by_cases hlt : K < n
    · have d1 : decide ((K : Int) < (n : Int)) = true := decide_eq_true (by omega)
      by_cases hlt5 : K < 5
      · have d2 : decide ((K : Int) < 5) = true := decide_eq_true (by omega)
        obtain ⟨ad, rfl⟩ := hb.out.1.some (k := K) (by rw [hn.out]; exact hlt)
        obtain ⟨⟨s, bA, bn, bc, fds⟩, hbt⟩ : ∃ b, l.getD K Bt0 = b := ⟨_, rfl⟩
        have hmem : (⟨s, bA, bn, bc, fds⟩ : Bt) ∈ l := getD_mem (by rw [hn.out]; exact hlt) hbt
        obtain ⟨hsb, hlb, hfd⟩ := hb.out.2 _ hmem
        simp only at hsb hlb hfd
        have hbc := hsb.2.2
        have hbn := hsb.2.1
        have HBT := Lib.hid hbt
        have HFD := Lib.hid hfd
        have HLB := Lib.hid hlb
        clear hbt hmem hsb hlb hfd
        go_upto_block 2 with fail
        go_cut [7] (fun xv wx => ∃ (i : Nat) (fs : List Fd), i ≤ 8 ∧ Hid (SRow (fun k => wo.heap.size ≤ k) 44 6 wx xv i (fdS.flat fs)) ∧ Hid (∀ f ∈ fs, f.rd.here w w.heap.size ∧ f.rd.n1 ≤ 10) ∧ Hid (Below wo.heap.size wo wx))
        case first =>
          go_wp2_with fail
          go_loopw [7, 8] (fun xv iv wr => ∃ (i : Nat) (fs : List Fd), i ≤ 8 ∧ i ≤ bn ∧ iv = .int .i64 (i : Int) ∧ fs.length = i ∧ Hid (SRow (fun k => wo.heap.size ≤ k) 44 6 wr xv i (fdS.flat fs)) ∧ Hid (∀ f ∈ fs, f.rd.here w w.heap.size ∧ f.rd.n1 ≤ 10) ∧ Hid (Below wo.heap.size wo wr)) (fun _ i _ => 8 - (intOf i).toNat)
          case atStart => exact ⟨0, [], by omega, Nat.zero_le _, rfl, rfl, SRow.nil, (fun f h => (by cases h)), Below.refl _ _⟩
          case round =>
            obtain ⟨i, fs, hi8, hib, rfl, hfs, HX, HF, HBW⟩ := hrel
            generalize wr = wq at *
            have HBQ : Hid (Below w.heap.size w wq) := HB.out.trans (HBW.out.mono HB.out.size)
            obtain ⟨m0, m1⟩ := bts_at (hb.out.1.below HBQ.out (Nat.le_refl _)) K (by rw [hn.out]; exact hlt) _ HBT.out
            simp only at m0 m1
            obtain ⟨xA, xc, rfl, -⟩ := HX.out.open_
            by_cases hi : i < bn
            · have d3 : decide ((i : Int) < (bn : Int)) = true := decide_eq_true (by omega)
              by_cases hi2 : i < 8
              · have d4 : decide ((i : Int) < 8) = true := decide_eq_true (by omega)
                obtain ⟨bd, rfl⟩ := HFD.out.1.some (k := i) (by rw [HLB.out]; exact hi)
                obtain ⟨⟨f0, f1, ⟨kd, x, A1, A2, n1, c1, n2, c2, ky, vl⟩⟩, hfe⟩ : ∃ f, fds.getD i Fd0 = f := ⟨_, rfl⟩
                obtain ⟨p0, p1, p2, p3, p4, p5⟩ := fds_at (HFD.out.1.below HBQ.out (Nat.le_refl _)) i (by rw [HLB.out]; exact hi) _ hfe
                simp only at p0 p1 p2 p3 p4 p5
                have hhere := HFD.out.2 _ (getD_mem (by rw [HLB.out]; exact hi) hfe)
                have hh2 := hhere
                obtain ⟨⟨hsl, -, -⟩, -⟩ := hh2
                simp only at hsl
                have HSH := Lib.hid (sh_here (f := ⟨f0, f1, ⟨kd, x, A1, A2, n1, c1, n2, c2, ky, vl⟩⟩) hhere)
                have hs1 := hsl.2.1
                have hs2 := hsl.2.2
                obtain ⟨q, hq⟩ : ∃ q, min n1 10 = q := ⟨_, rfl⟩
                have hq1 : min (n1 : Int) 10 = (q : Int) := by omega
                have hif1 : (if (n1 : Int) < 10 then (n1 : Int) else 10) = (q : Int) := by split <;> omega
                have hif2 : (if 10 < (n1 : Int) then 10 else (n1 : Int)) = (q : Int) := by split <;> omega
                have hq2 : q ≤ n1 ∧ q ≤ 10 ∧ q ≤ c1 := by omega
                have HQ := Lib.hid hq
                clear hfe hhere hsl hq
                go_upto_region 11 with fail
                have HX1 := Lib.hid (heap_alloc_new wq (.cells #[.int .i64 f0, .int .i64 f1, .int .i64 kd, .slice A1 n1 c1, .slice A2 n2 c2, .int .i64 x] 44))
                have HXR : Hid (SRow (fun k => wo.heap.size ≤ k ∧ k < wq.heap.size) 44 6 (wq.alloc (.cells #[.int .i64 f0, .int .i64 f1, .int .i64 kd, .slice A1 n1 c1, .slice A2 n2 c2, .int .i64 x] 44)) (.slice xA i xc) i (fdS.flat fs)) := (HX.out.mono (T := fun k => wo.heap.size ≤ k ∧ k < wq.heap.size) fun k hk e => ⟨e, hk⟩).new ((Below.refl _ wq).alloc (Nat.le_refl _) _)
                have HBR : Hid (Below wo.heap.size wo (wq.alloc (.cells #[.int .i64 f0, .int .i64 f1, .int .i64 kd, .slice A1 n1 c1, .slice A2 n2 c2, .int .i64 x] 44))) := HBW.out.alloc HBW.out.size _
                have HZ : Hid (wo.heap.size ≤ wq.heap.size) := HBW.out.size
                clear p0 p1 p2 p3 p4 p5 m0 m1 HX HBW HBQ
                obtain ⟨g, hg⟩ : ∃ g, wq.heap.size = g := ⟨_, rfl⟩
                rw [hg] at HX1 HZ HXR ⊢
                generalize wq.alloc (.cells #[.int .i64 f0, .int .i64 f1, .int .i64 kd, .slice A1 n1 c1, .slice A2 n2 c2, .int .i64 x] 44) = wa at *
                obtain ⟨y0, y1, y2, y3, y4, y5⟩ := six_cells HX1.out
                have f3 : wa.frozen? ⟨g, 3, none⟩ = false := frozen_of_row _ _ _ _ _ HX1.out
                have f4 : wa.frozen? ⟨g, 4, none⟩ = false := frozen_of_row _ _ _ _ _ HX1.out
                go_upto_region 12 with fail
                have HK : Hid (Kept (fun k => k = g) wa ((wa.setCell ⟨g, 3, none⟩ (.slice A1 q c1)).setCell ⟨g, 4, none⟩ (.slice none 0 0))) := (Kept.setCell (S := fun k => k = g) wa ⟨g, 3, none⟩ _ rfl).trans (Kept.setCell (S := fun k => k = g) _ ⟨g, 4, none⟩ _ rfl)
                have HX2 : Hid (((wa.setCell ⟨g, 3, none⟩ (.slice A1 q c1)).setCell ⟨g, 4, none⟩ (.slice none 0 0)).heap[g]? = some (.cells #[.int .i64 f0, .int .i64 f1, .int .i64 kd, .slice A1 q c1, .slice none 0 0, .int .i64 x] 44 (0, 0))) := by
                  have := HX1.out
                  show _ = _
                  simp [World.setCell, Array.getElem?_modify, this]
                have HXS : Hid (SRow (fun k => wo.heap.size ≤ k) 44 6 ((wa.setCell ⟨g, 3, none⟩ (.slice A1 q c1)).setCell ⟨g, 4, none⟩ (.slice none 0 0)) (.slice xA i xc) i (fdS.flat fs)) := (HXR.out.kept HK.out fun k _ e e2 => by have := e.2; omega).mono fun k _ e => e.1
                have HBS : Hid (Below wo.heap.size wo ((wa.setCell ⟨g, 3, none⟩ (.slice A1 q c1)).setCell ⟨g, 4, none⟩ (.slice none 0 0))) := HBR.out.trans (HK.out.below HBR.out.size fun k e => by rw [e]; exact HZ.out)
                clear y0 y1 y2 y3 y4 y5 f3 f4 HX1 HXR HBR HK
                generalize (wa.setCell ⟨g, 3, none⟩ (.slice A1 q c1)).setCell ⟨g, 4, none⟩ (.slice none 0 0) = ws at *
                obtain ⟨y0, y1, y2, y3, y4, y5⟩ := six_cells HX2.out
                have HXB := Lib.hid (HXS.out.new ((Below.refl _ ws).alloc (Nat.le_refl _) (.cells #[.int .i64 f0, .int .i64 f1, .int .i64 kd, .slice A1 q c1, .slice none 0 0, .int .i64 x] 44)))
                have HBB : Hid (Below wo.heap.size wo (ws.alloc (.cells #[.int .i64 f0, .int .i64 f1, .int .i64 kd, .slice A1 q c1, .slice none 0 0, .int .i64 x] 44))) := HBS.out.alloc HBS.out.size _
                have HGB : Hid ((ws.alloc (.cells #[.int .i64 f0, .int .i64 f1, .int .i64 kd, .slice A1 q c1, .slice none 0 0, .int .i64 x] 44)).heap[ws.heap.size]? = some (.cells (fdS.cs (Fd.sh ⟨f0, f1, ⟨kd, x, A1, A2, n1, c1, n2, c2, ky, vl⟩⟩)).toArray 44 (0, 0))) := by
                  show _ = _
                  rw [heap_alloc_new, ← HQ.out]
                  rfl
                clear HXS HBS HX2
                go_wp2_with (at_builtin; go_loud (refine append_one (Sh := fdS) (by rfl) (.tmp 55) (.tmp 57) 32 rfl Try.underlying32 info_found' rfl _ i fs rfl HXB.out ws.heap.size 1 (Fd.sh ⟨f0, f1, ⟨kd, x, A1, A2, n1, c1, n2, c2, ky, vl⟩⟩) rfl HGB.out (by omega) (by omega) ?_; intro v4 w4 hr4 hk4))
                have HR4 : Hid (SRow (fun k => wo.heap.size ≤ k) 44 6 w4 v4 (i + 1) (fdS.flat (fs ++ [Fd.sh ⟨f0, f1, ⟨kd, x, A1, A2, n1, c1, n2, c2, ky, vl⟩⟩]))) := hr4.mono fun k _ h => by
                  rcases h with h | h
                  · exact h
                  · exact Nat.le_trans HBB.out.size h
                have HB4 : Hid (Below wo.heap.size wo w4) := HBB.out.trans (hk4.below HBB.out.size fun k h => h)
                have HF4 : Hid (∀ f ∈ fs ++ [Fd.sh ⟨f0, f1, ⟨kd, x, A1, A2, n1, c1, n2, c2, ky, vl⟩⟩], f.rd.here w w.heap.size ∧ f.rd.n1 ≤ 10) := fun f hm => by
                  rcases List.mem_append.1 hm with hm | hm
                  · exact HF.out f hm
                  · rw [List.mem_singleton.1 hm]
                    exact ⟨HSH.out, by simp only [Fd.sh]; omega⟩
                clear hr4 hk4 HXB HBB HGB y0 y1 y2 y3 y4 y5
                go_wp2_with fail
                exact ⟨⟨i + 1, _, by omega, by omega, by go_num, by rw [List.length_append, hfs]; rfl, HR4.out, HF4.out, HB4.out⟩, by simp [intOf] <;> omega⟩
              · have d4 : decide ((i : Int) < 8) = false := decide_eq_false (by omega)
                go_wp2_with fail
                go_meet
                exact ⟨i, fs, hi8, HX, HF, HBW⟩
            · have d3 : decide ((i : Int) < (bn : Int)) = false := decide_eq_false (by omega)
              go_wp2_with fail
              go_meet
              exact ⟨i, fs, hi8, HX, HF, HBW⟩
        case rest =>
          obtain ⟨i, fs, hi8, HX, HF, HBW⟩ := hcut
          generalize wc = wx at *
          obtain ⟨xA, xc, rfl, -⟩ := HX.out.open_
          have HBX : Hid (Below w.heap.size w wx) := HB.out.trans (HBW.out.mono HB.out.size)
          have HS0 : Hid (ShSt w.heap.size wx u4 u5 l' l' (l' ++ [⟨s, xA, i, xc, fs⟩])) := (HST.out.next HB.out.size HBW.out).add (N1 := wo.heap.size) HB.out.size (fun g e => (HST.out.ra.lt g e).2) (fun g e => (HST.out.rb.lt g e).2) HX.out hi8 (fun f hf => ⟨(HF.out f hf).1.below HBX.out (Nat.le_refl _), (HF.out f hf).2⟩)
          clear HX HF HBW
          go_upto_region 13 with fail
          refine wp_region_held_drew (S := (fun W => Below w.heap.size w W ∧ w.heap.size ≤ W.heap.size)) (by kernel_rfl) (⟨below_drawn HBX.out 1, HBX.out.size⟩) (fun hH => ?_)
          change wpAnyH _ _ _ _ _ 22 #[false, false, false, false, false, false, false, false, false, false, false, false, false, false, false, false, false, false, false, false, false, false] _ _
          have HST0 : Hid (ShSt w.heap.size wx.drew u4 u5 l' l' (l' ++ [(⟨s, xA, i, xc, fs⟩ : Bt)])) := HS0.out.next HBX.out.size (below_drawn (Below.refl _ wx) 1)
          generalize wx.drew = wd at *
          refine held_take (i := 0) (v := ?_) (d := some 59) rfl rfl (by kernel_rfl) (by kernel_rfl) (by kernel_rfl) (fun _ _ _ h => h) hH ⟨?_, fun w hSw => ?_⟩ ?_
          rotate_left 1
          · rfl
          · (go_simp; all_goals with_reducible rfl)
          simp only [Act.put, List.setIfInBounds_toArray, List.set_cons_zero, List.set_cons_succ]
          refine held_take (i := 1) (v := ?_) (d := some 60) rfl rfl (by kernel_rfl) (by kernel_rfl) (by kernel_rfl) (fun _ _ _ h => h) hH ⟨?_, fun w hSw => ?_⟩ ?_
          rotate_left 1
          · rfl
          · (go_simp; all_goals with_reducible rfl)
          simp only [Act.put, List.setIfInBounds_toArray, List.set_cons_zero, List.set_cons_succ]
          refine held_take (i := 2) (v := ?_) (d := some 61) rfl rfl (by kernel_rfl) (by kernel_rfl) (by kernel_rfl) (fun _ _ _ h => h) hH ⟨?_, fun w hSw => ?_⟩ ?_
          rotate_left 1
          · rfl
          · (go_simp; all_goals with_reducible rfl)
          simp only [Act.put, List.setIfInBounds_toArray, List.set_cons_zero, List.set_cons_succ]
          refine held_take (i := 3) (v := ?_) (d := some 62) rfl rfl (by kernel_rfl) (by kernel_rfl) (by kernel_rfl) (fun _ _ _ h => h) hH ⟨?_, fun w hSw => ?_⟩ ?_
          rotate_left 1
          · rfl
          · obtain ⟨m0, m1⟩ := bts_at (hb.out.1.below hSw.1 (Nat.le_refl _)) K (by rw [hn.out]; exact hlt) _ HBT.out
            simp only at m0 m1
            (go_simp; all_goals with_reducible rfl)
          simp only [Act.put, List.setIfInBounds_toArray, List.set_cons_zero, List.set_cons_succ]
          refine held_take (i := 4) (v := ?_) (d := some 63) rfl rfl (by kernel_rfl) (by kernel_rfl) (by kernel_rfl) (fun _ _ _ h => h) hH ⟨?_, fun w hSw => ?_⟩ ?_
          rotate_left 1
          · rfl
          · (go_simp; all_goals with_reducible rfl)
          simp only [Act.put, List.setIfInBounds_toArray, List.set_cons_zero, List.set_cons_succ]
          refine held_take (i := 5) (v := ?_) (d := some 64) rfl rfl (by kernel_rfl) (by kernel_rfl) (by kernel_rfl) (fun _ _ _ h => h) hH ⟨?_, fun w hSw => ?_⟩ ?_
          rotate_left 1
          · rfl
          · obtain ⟨m0, m1⟩ := bts_at (hb.out.1.below hSw.1 (Nat.le_refl _)) K (by rw [hn.out]; exact hlt) _ HBT.out
            simp only at m0 m1
            (go_simp; all_goals with_reducible rfl)
          simp only [Act.put, List.setIfInBounds_toArray, List.set_cons_zero, List.set_cons_succ]
          refine held_take (i := 6) (v := ?_) (d := some 65) rfl rfl (by kernel_rfl) (by kernel_rfl) (by kernel_rfl) (fun _ _ _ h => h) hH ⟨?_, fun w hSw => ?_⟩ ?_
          rotate_left 1
          · rfl
          · (go_simp; all_goals with_reducible rfl)
          simp only [Act.put, List.setIfInBounds_toArray, List.set_cons_zero, List.set_cons_succ]
          refine held_take (i := 7) (v := ?_) (d := some 66) rfl rfl (by kernel_rfl) (by kernel_rfl) (by kernel_rfl) (fun _ _ _ h => h) hH ⟨?_, fun w hSw => ?_⟩ ?_
          rotate_left 1
          · rfl
          · (go_simp; all_goals with_reducible rfl)
          simp only [Act.put, List.setIfInBounds_toArray, List.set_cons_zero, List.set_cons_succ]
          refine held_take (i := 10) (v := ?_) (d := some 69) rfl rfl (by kernel_rfl) (by kernel_rfl) (by kernel_rfl) (fun _ _ _ h => h) hH ⟨?_, fun w hSw => ?_⟩ ?_
          rotate_left 1
          · rfl
          · (go_simp; all_goals with_reducible rfl)
          simp only [Act.put, List.setIfInBounds_toArray, List.set_cons_zero, List.set_cons_succ]
          refine held_take (i := 11) (v := ?_) (d := some 70) rfl rfl (by kernel_rfl) (by kernel_rfl) (by kernel_rfl) (fun _ _ _ h => h) hH ⟨?_, fun w hSw => ?_⟩ ?_
          rotate_left 1
          · rfl
          · (go_simp; all_goals with_reducible rfl)
          simp only [Act.put, List.setIfInBounds_toArray, List.set_cons_zero, List.set_cons_succ]
          refine held_take (i := 12) (v := ?_) (d := some 71) rfl rfl (by kernel_rfl) (by kernel_rfl) (by kernel_rfl) (fun _ _ _ h => h) hH ⟨?_, fun w hSw => ?_⟩ ?_
          rotate_left 1
          · rfl
          · (go_simp; all_goals with_reducible rfl)
          simp only [Act.put, List.setIfInBounds_toArray, List.set_cons_zero, List.set_cons_succ]
          refine held_take (i := 13) (v := ?_) (d := some 72) rfl rfl (by kernel_rfl) (by kernel_rfl) (by kernel_rfl) (fun _ _ _ h => h) hH ⟨?_, fun w hSw => ?_⟩ ?_
          rotate_left 1
          · rfl
          · obtain ⟨m0, m1⟩ := bts_at (hb.out.1.below hSw.1 (Nat.le_refl _)) K (by rw [hn.out]; exact hlt) _ HBT.out
            simp only at m0 m1
            (go_simp; all_goals with_reducible rfl)
          simp only [Act.put, List.setIfInBounds_toArray, List.set_cons_zero, List.set_cons_succ]
          refine held_take (i := 14) (v := ?_) (d := some 73) rfl rfl (by kernel_rfl) (by kernel_rfl) (by kernel_rfl) (fun _ _ _ h => h) hH ⟨?_, fun w hSw => ?_⟩ ?_
          rotate_left 1
          · rfl
          · (go_simp; all_goals with_reducible rfl)
          simp only [Act.put, List.setIfInBounds_toArray, List.set_cons_zero, List.set_cons_succ]
          refine held_take (i := 15) (v := ?_) (d := some 74) rfl rfl (by kernel_rfl) (by kernel_rfl) (by kernel_rfl) (fun _ _ _ h => h) hH ⟨?_, fun w hSw => ?_⟩ ?_
          rotate_left 1
          · rfl
          · obtain ⟨m0, m1⟩ := bts_at (hb.out.1.below hSw.1 (Nat.le_refl _)) K (by rw [hn.out]; exact hlt) _ HBT.out
            simp only at m0 m1
            (go_simp; all_goals with_reducible rfl)
          simp only [Act.put, List.setIfInBounds_toArray, List.set_cons_zero, List.set_cons_succ]
          refine held_take (i := 16) (v := ?_) (d := some 75) rfl rfl (by kernel_rfl) (by kernel_rfl) (by kernel_rfl) (fun _ _ _ h => h) hH ⟨?_, fun w hSw => ?_⟩ ?_
          rotate_left 1
          · rfl
          · (go_simp; all_goals with_reducible rfl)
          simp only [Act.put, List.setIfInBounds_toArray, List.set_cons_zero, List.set_cons_succ]
          refine held_take (i := 17) (v := ?_) (d := some 76) rfl rfl (by kernel_rfl) (by kernel_rfl) (by kernel_rfl) (fun _ _ _ h => h) hH ⟨?_, fun w hSw => ?_⟩ ?_
          rotate_left 1
          · rfl
          · (go_simp; all_goals with_reducible rfl)
          simp only [Act.put, List.setIfInBounds_toArray, List.set_cons_zero, List.set_cons_succ]
          refine held_two (i := 8) (j := 18) rfl rfl (by kernel_rfl) ?_ ?_ (fun K hK => ?_) (fun K hK => ?_)
          · rfl
          · rfl
          · go_simp
            have HST1 := Lib.hid (HST0.out.next hH.2 ((Below.refl _ wd).alloc (Nat.le_refl _) (.cells #[.int .i64 s, .slice xA i xc] 34)))
            have HGA1 := Lib.hid (heap_alloc_new wd (.cells #[.int .i64 s, .slice xA i xc] 34))
            have HNOA : Hid (∀ g, (u4 : Value).ownBlock = some g → g < wd.heap.size) := fun g e => (HST0.out.ra.lt g e).2
            have hB2 := hH.1.alloc hH.2 (.cells #[.int .i64 s, .slice xA i xc] 34)
            have hZ2 := Nat.le_trans hH.2 ((Below.refl wd.heap.size wd).alloc (Nat.le_refl _) (.cells #[.int .i64 s, .slice xA i xc] 34)).size
            clear hH
            generalize wd.alloc (.cells #[.int .i64 s, .slice xA i xc] 34) = wn1 at *
            have hH := And.intro hB2 hZ2
            refine hK _ _ hH ?_
            clear hK K
            simp only [List.setIfInBounds_toArray, List.set_cons_zero, List.set_cons_succ]
            refine held_two (i := 9) (j := 18) rfl rfl (by kernel_rfl) ?_ ?_ (fun K hK => ?_) (fun K hK => ?_)
            · rfl
            · rfl
            · refine op_append_off (Sh := batS) (.tmp 59) (.tmp 67) 22 rfl Try.underlying22 info_bata rfl u4 l'.length l' rfl HST1.out.ra wd.heap.size 1 (⟨s, xA, i, xc, fs⟩ : Bt) rfl HGA1.out (by omega) (by omega) ?_
              intro v2 wn2 hr hk ho
              have HST2 := Lib.hid (HST1.out.appA hH.2 hr hk ho)
              have hbw := hk.below hH.2 (fun k e => (HST1.out.oa k e).1)
              replace hH := And.intro (hH.1.trans hbw) (Nat.le_trans hH.2 hbw.size)
              clear hr hk ho hbw
              refine hK _ _ hH ?_
              clear hK K
              simp only [Act.put, List.setIfInBounds_toArray, List.set_cons_zero, List.set_cons_succ]
              refine held_step (i := 18) rfl (by kernel_rfl) ?_ (fun K hK => ?_)
              · rfl
              go_simp
              have HST3 := Lib.hid (HST2.out.next hH.2 ((Below.refl _ wn2).alloc (Nat.le_refl _) (.cells #[.int .i64 s, .slice xA i xc] 46)))
              have HGB3 := Lib.hid (heap_alloc_new wn2 (.cells #[.int .i64 s, .slice xA i xc] 46))
              have hB2 := hH.1.alloc hH.2 (.cells #[.int .i64 s, .slice xA i xc] 46)
              have hZ2 := Nat.le_trans hH.2 ((Below.refl wn2.heap.size wn2).alloc (Nat.le_refl _) (.cells #[.int .i64 s, .slice xA i xc] 46)).size
              clear hH
              generalize wn2.alloc (.cells #[.int .i64 s, .slice xA i xc] 46) = wn3 at *
              have hH := And.intro hB2 hZ2
              refine hK _ _ hH ?_
              clear hK K
              simp only [List.setIfInBounds_toArray, List.set_cons_zero, List.set_cons_succ]
              refine held_step (i := 19) rfl (by kernel_rfl) ?_ (fun K hK => ?_)
              · rfl
              refine op_append_off (Sh := batS) (.tmp 69) (.tmp 77) 23 rfl Try.underlying23 info_batb rfl u5 l'.length l' rfl HST3.out.rb wn2.heap.size 1 (⟨s, xA, i, xc, fs⟩ : Bt) rfl HGB3.out (by omega) (by omega) ?_
              intro v4 wn4 hr hk ho
              have HST4 := Lib.hid (HST3.out.appB hH.2 hr hk ho)
              have hbw := hk.below hH.2 (fun k e => HST3.out.ob k e)
              replace hH := And.intro (hH.1.trans hbw) (Nat.le_trans hH.2 hbw.size)
              clear hr hk ho hbw
              refine hK _ _ hH ?_
              clear hK K
              simp only [Act.put, List.setIfInBounds_toArray, List.set_cons_zero, List.set_cons_succ]
              refine held_take (i := 20) (v := ?_) (d := some 4) rfl rfl (by kernel_rfl) (by kernel_rfl) (by kernel_rfl) (fun _ _ _ h => h) hH ⟨?_, fun w hSw => ?_⟩ ?_
              rotate_left 1
              · rfl
              · (go_simp; all_goals with_reducible rfl)
              simp only [Act.put, List.setIfInBounds_toArray, List.set_cons_zero, List.set_cons_succ]
              refine held_take (i := 21) (v := ?_) (d := some 5) rfl rfl (by kernel_rfl) (by kernel_rfl) (by kernel_rfl) (fun _ _ _ h => h) hH ⟨?_, fun w hSw => ?_⟩ ?_
              rotate_left 1
              · rfl
              · (go_simp; all_goals with_reducible rfl)
              simp only [Act.put, List.setIfInBounds_toArray, List.set_cons_zero, List.set_cons_succ]
              refine wpAnyH_done (by kernel_rfl) ?_ _
              (try go_wp2_with fail)
              exact ⟨⟨K + 1, l' ++ [(⟨s, xA, i, xc, fs⟩ : Bt)], by omega, by omega, by go_num, by rw [List.length_append, hl']; rfl, HST4.out, hH.1⟩, by simp [intOf] <;> omega⟩
            · go_simp
              have HST2 := Lib.hid (HST1.out.next hH.2 ((Below.refl _ wn1).alloc (Nat.le_refl _) (.cells #[.int .i64 s, .slice xA i xc] 46)))
              have HGB2 := Lib.hid (heap_alloc_new wn1 (.cells #[.int .i64 s, .slice xA i xc] 46))
              have HGA2 := Lib.hid ((heap_alloc_old wn1 (.cells #[.int .i64 s, .slice xA i xc] 46) (Array.getElem?_eq_some_iff.1 HGA1.out).1).trans HGA1.out)
              have HNOB : Hid (∀ g, (u4 : Value).ownBlock = some g → g < wn1.heap.size) := fun g e => (HST1.out.ra.lt g e).2
              have hB2 := hH.1.alloc hH.2 (.cells #[.int .i64 s, .slice xA i xc] 46)
              have hZ2 := Nat.le_trans hH.2 ((Below.refl wn1.heap.size wn1).alloc (Nat.le_refl _) (.cells #[.int .i64 s, .slice xA i xc] 46)).size
              clear hH
              generalize wn1.alloc (.cells #[.int .i64 s, .slice xA i xc] 46) = wn2 at *
              have hH := And.intro hB2 hZ2
              refine hK _ _ hH ?_
              clear hK K
              simp only [List.setIfInBounds_toArray, List.set_cons_zero, List.set_cons_succ]
              refine held_step (i := 9) rfl (by kernel_rfl) ?_ (fun K hK => ?_)
              · rfl
              refine op_append_off (Sh := batS) (.tmp 59) (.tmp 67) 22 rfl Try.underlying22 info_bata rfl u4 l'.length l' rfl HST2.out.ra wd.heap.size 1 (⟨s, xA, i, xc, fs⟩ : Bt) rfl HGA2.out (by omega) (by omega) ?_
              intro v3 wn3 hr hk ho
              have HST3 := Lib.hid (HST2.out.appA hH.2 hr hk ho)
              have HGB3 := Lib.hid ((hk.block wn1.heap.size (Array.getElem?_eq_some_iff.1 HGB2.out).1 (fun e => Nat.lt_irrefl _ (HNOB.out _ e))).trans HGB2.out)
              have hbw := hk.below hH.2 (fun k e => (HST2.out.oa k e).1)
              replace hH := And.intro (hH.1.trans hbw) (Nat.le_trans hH.2 hbw.size)
              clear hr hk ho hbw
              refine hK _ _ hH ?_
              clear hK K
              simp only [Act.put, List.setIfInBounds_toArray, List.set_cons_zero, List.set_cons_succ]
              refine held_step (i := 19) rfl (by kernel_rfl) ?_ (fun K hK => ?_)
              · rfl
              refine op_append_off (Sh := batS) (.tmp 69) (.tmp 77) 23 rfl Try.underlying23 info_batb rfl u5 l'.length l' rfl HST3.out.rb wn1.heap.size 1 (⟨s, xA, i, xc, fs⟩ : Bt) rfl HGB3.out (by omega) (by omega) ?_
              intro v4 wn4 hr hk ho
              have HST4 := Lib.hid (HST3.out.appB hH.2 hr hk ho)
              have hbw := hk.below hH.2 (fun k e => HST3.out.ob k e)
              replace hH := And.intro (hH.1.trans hbw) (Nat.le_trans hH.2 hbw.size)
              clear hr hk ho hbw
              refine hK _ _ hH ?_
              clear hK K
              simp only [Act.put, List.setIfInBounds_toArray, List.set_cons_zero, List.set_cons_succ]
              refine held_take (i := 20) (v := ?_) (d := some 4) rfl rfl (by kernel_rfl) (by kernel_rfl) (by kernel_rfl) (fun _ _ _ h => h) hH ⟨?_, fun w hSw => ?_⟩ ?_
              rotate_left 1
              · rfl
              · (go_simp; all_goals with_reducible rfl)
              simp only [Act.put, List.setIfInBounds_toArray, List.set_cons_zero, List.set_cons_succ]
              refine held_take (i := 21) (v := ?_) (d := some 5) rfl rfl (by kernel_rfl) (by kernel_rfl) (by kernel_rfl) (fun _ _ _ h => h) hH ⟨?_, fun w hSw => ?_⟩ ?_
              rotate_left 1
              · rfl
              · (go_simp; all_goals with_reducible rfl)
              simp only [Act.put, List.setIfInBounds_toArray, List.set_cons_zero, List.set_cons_succ]
              refine wpAnyH_done (by kernel_rfl) ?_ _
              (try go_wp2_with fail)
              exact ⟨⟨K + 1, l' ++ [(⟨s, xA, i, xc, fs⟩ : Bt)], by omega, by omega, by go_num, by rw [List.length_append, hl']; rfl, HST4.out, hH.1⟩, by simp [intOf] <;> omega⟩
          · go_simp
            have HST1 := Lib.hid (HST0.out.next hH.2 ((Below.refl _ wd).alloc (Nat.le_refl _) (.cells #[.int .i64 s, .slice xA i xc] 46)))
            have HGB1 := Lib.hid (heap_alloc_new wd (.cells #[.int .i64 s, .slice xA i xc] 46))
            have HNOB : Hid (∀ g, (u4 : Value).ownBlock = some g → g < wd.heap.size) := fun g e => (HST0.out.ra.lt g e).2
            have hB2 := hH.1.alloc hH.2 (.cells #[.int .i64 s, .slice xA i xc] 46)
            have hZ2 := Nat.le_trans hH.2 ((Below.refl wd.heap.size wd).alloc (Nat.le_refl _) (.cells #[.int .i64 s, .slice xA i xc] 46)).size
            clear hH
            generalize wd.alloc (.cells #[.int .i64 s, .slice xA i xc] 46) = wn1 at *
            have hH := And.intro hB2 hZ2
            refine hK _ _ hH ?_
            clear hK K
            simp only [List.setIfInBounds_toArray, List.set_cons_zero, List.set_cons_succ]
            refine held_step (i := 8) rfl (by kernel_rfl) ?_ (fun K hK => ?_)
            · rfl
            go_simp
            have HST2 := Lib.hid (HST1.out.next hH.2 ((Below.refl _ wn1).alloc (Nat.le_refl _) (.cells #[.int .i64 s, .slice xA i xc] 34)))
            have HGA2 := Lib.hid (heap_alloc_new wn1 (.cells #[.int .i64 s, .slice xA i xc] 34))
            have HGB2 := Lib.hid ((heap_alloc_old wn1 (.cells #[.int .i64 s, .slice xA i xc] 34) (Array.getElem?_eq_some_iff.1 HGB1.out).1).trans HGB1.out)
            have HNOA : Hid (∀ g, (u4 : Value).ownBlock = some g → g < wn1.heap.size) := fun g e => (HST1.out.ra.lt g e).2
            have hB2 := hH.1.alloc hH.2 (.cells #[.int .i64 s, .slice xA i xc] 34)
            have hZ2 := Nat.le_trans hH.2 ((Below.refl wn1.heap.size wn1).alloc (Nat.le_refl _) (.cells #[.int .i64 s, .slice xA i xc] 34)).size
            clear hH
            generalize wn1.alloc (.cells #[.int .i64 s, .slice xA i xc] 34) = wn2 at *
            have hH := And.intro hB2 hZ2
            refine hK _ _ hH ?_
            clear hK K
            simp only [List.setIfInBounds_toArray, List.set_cons_zero, List.set_cons_succ]
            refine held_step (i := 9) rfl (by kernel_rfl) ?_ (fun K hK => ?_)
            · rfl
            refine op_append_off (Sh := batS) (.tmp 59) (.tmp 67) 22 rfl Try.underlying22 info_bata rfl u4 l'.length l' rfl HST2.out.ra wn1.heap.size 1 (⟨s, xA, i, xc, fs⟩ : Bt) rfl HGA2.out (by omega) (by omega) ?_
            intro v3 wn3 hr hk ho
            have HST3 := Lib.hid (HST2.out.appA hH.2 hr hk ho)
            have HGB3 := Lib.hid ((hk.block wd.heap.size (Array.getElem?_eq_some_iff.1 HGB2.out).1 (fun e => Nat.lt_irrefl _ (HNOB.out _ e))).trans HGB2.out)
            have hbw := hk.below hH.2 (fun k e => (HST2.out.oa k e).1)
            replace hH := And.intro (hH.1.trans hbw) (Nat.le_trans hH.2 hbw.size)
            clear hr hk ho hbw
            refine hK _ _ hH ?_
            clear hK K
            simp only [Act.put, List.setIfInBounds_toArray, List.set_cons_zero, List.set_cons_succ]
            refine held_step (i := 19) rfl (by kernel_rfl) ?_ (fun K hK => ?_)
            · rfl
            refine op_append_off (Sh := batS) (.tmp 69) (.tmp 77) 23 rfl Try.underlying23 info_batb rfl u5 l'.length l' rfl HST3.out.rb wd.heap.size 1 (⟨s, xA, i, xc, fs⟩ : Bt) rfl HGB3.out (by omega) (by omega) ?_
            intro v4 wn4 hr hk ho
            have HST4 := Lib.hid (HST3.out.appB hH.2 hr hk ho)
            have hbw := hk.below hH.2 (fun k e => HST3.out.ob k e)
            replace hH := And.intro (hH.1.trans hbw) (Nat.le_trans hH.2 hbw.size)
            clear hr hk ho hbw
            refine hK _ _ hH ?_
            clear hK K
            simp only [Act.put, List.setIfInBounds_toArray, List.set_cons_zero, List.set_cons_succ]
            refine held_take (i := 20) (v := ?_) (d := some 4) rfl rfl (by kernel_rfl) (by kernel_rfl) (by kernel_rfl) (fun _ _ _ h => h) hH ⟨?_, fun w hSw => ?_⟩ ?_
            rotate_left 1
            · rfl
            · (go_simp; all_goals with_reducible rfl)
            simp only [Act.put, List.setIfInBounds_toArray, List.set_cons_zero, List.set_cons_succ]
            refine held_take (i := 21) (v := ?_) (d := some 5) rfl rfl (by kernel_rfl) (by kernel_rfl) (by kernel_rfl) (fun _ _ _ h => h) hH ⟨?_, fun w hSw => ?_⟩ ?_
            rotate_left 1
            · rfl
            · (go_simp; all_goals with_reducible rfl)
            simp only [Act.put, List.setIfInBounds_toArray, List.set_cons_zero, List.set_cons_succ]
            refine wpAnyH_done (by kernel_rfl) ?_ _
            (try go_wp2_with fail)
            exact ⟨⟨K + 1, l' ++ [(⟨s, xA, i, xc, fs⟩ : Bt)], by omega, by omega, by go_num, by rw [List.length_append, hl']; rfl, HST4.out, hH.1⟩, by simp [intOf] <;> omega⟩
      · have d2 : decide ((K : Int) < 5) = false := decide_eq_false (by omega)
        go_wp2_with fail
        go_ret2
        exact ⟨_, _, l', rfl, HST.out, by omega, HB.out⟩
    · have d1 : decide ((K : Int) < (n : Int)) = false := decide_eq_false (by omega)
      go_wp2_with fail
      go_ret2
      exact ⟨_, _, l', rfl, HST.out, by omega, HB.out⟩
end Go.Proofs.Ytcdomlgnfbdeoaa
