/-
  The walk of the law ReplayFlush.
-/
import Derived.Test.YtcdomlgnfbdeoaaRpLawMap
set_option maxRecDepth 100000
namespace Go.Proofs.Ytcdomlgnfbdeoaa
open Go.RowKit
theorem FdsIn.more {w : World} {B C : Nat} {A : Option Addr} {l : List Fd} (h : FdsIn w B A l) (hB : B ≤ C) : FdsIn w C A l := ⟨h.1.up hB, fun f hf => by
  obtain ⟨⟨p1, p2, p3⟩, ⟨q1, q2, q3⟩⟩ := h.2 f hf
  exact ⟨⟨p1, p2, p3.more hB⟩, ⟨q1, q2, q3.more hB⟩⟩⟩
theorem Bt.here.more {w : World} {B C : Nat} {b : Bt} (h : b.here w B) (hB : B ≤ C) : b.here w C := ⟨h.1, h.2.1, h.2.2.more hB⟩
theorem BtsAt.more {w : World} {B C : Nat} {A : Option Addr} {l : List Bt} (h : BtsAt w B A l) (hB : B ≤ C) : BtsAt w C A l := ⟨h.1.up hB, fun b hm => (h.2 b hm).more hB⟩
/-- The flush marker. -/
def fdF : Fd := ⟨0, 16, ⟨3, 0, none, none, 0, 0, 0, 0, [], []⟩⟩
def btF (q : Nat) : Bt := ⟨1, some ⟨q, 0, none⟩, 1, 1, [fdF]⟩
theorem btF_here {w : World} {q B : Nat} (h : w.heap[q]? = some (.cells (fdS.cs fdF).toArray 44 (0, 0))) (hq : q < B) : (btF q).here w B := by
  refine ⟨⟨fun e => (by cases e), Nat.le_refl _, (by show (1 : Nat) ≤ _; decide)⟩, rfl, Arr.ofBox (S := fdS) h (Nat.zero_le _) hq, fun f hf => ?_⟩
  rw [List.mem_singleton.1 hf]
  exact ⟨⟨⟨fun _ => ⟨rfl, rfl⟩, Nat.le_refl _, by decide⟩, rfl, fun k hk => absurd hk (Nat.not_lt_zero _)⟩, ⟨⟨fun _ => ⟨rfl, rfl⟩, Nat.le_refl _, by decide⟩, rfl, fun k hk => absurd hk (Nat.not_lt_zero _)⟩⟩
theorem two_cells_at' {w : World} {g : Nat} {a b : Value} {t : TypeId} (hg : w.heap[g]? = some (.cells #[a, b] t (0, 0))) : w.cell? ⟨g, 0, none⟩ = some a ∧ w.cell? ⟨g, 1, none⟩ = some b :=
  ⟨cell_of_row _ _ 0 _ _ _ hg, cell_of_row _ _ 1 _ _ _ hg⟩
theorem fs_flush (a b : List Bt) (q : Nat) : Rp.fin (fsOf ((a ++ [btF q]) ++ b)) = Rp.fin (fsOf b) := by
  rw [fsOf_append, fsOf_append, List.append_assoc]
  exact Rp.fin_flush _ _ (f := ⟨1, 0, 16, 3, _, 0⟩) rfl
set_option maxHeartbeats 4000000 in
theorem replayflush_any (now : Int) (A A' : Option Addr) (n cap n' cap' : Nat) (l l2 : List Bt) (w : World) (hs : SlIs A n cap) (hn : Hid (l.length = n)) (hb : Hid (BtsAt w w.heap.size A l)) (hs' : SlIs A' n' cap') (hn' : Hid (l2.length = n')) (hb' : Hid (BtsAt w w.heap.size A' l2)) :
    Calls Try.prog 6 #[.slice A n cap, .slice A' n' cap', .int .i64 now] w fun e w' => e = .returned (.bool true) ∧ Below w.heap.size w w' := by
  have CS := Lib.hid (short22_any A n cap l w hs hn hb)
  have CT : Hid (∀ W, Below w.heap.size w W → Calls Try.prog 7 #[.slice A' n' cap'] W (ShortIs W)) := fun W hW => short22_any A' n' cap' l2 W hs' hn' (Lib.hid ((hb'.out.below hW (Nat.le_refl _)).more hW.size))
  have CA := Lib.hid (fun W => rpawake_any W)
  clear hn hb hn' hb'
  go_enter Try.func6, Try.ntmps6
  go_wp2_with fail
  refine CS.out.mono ?_
  rintro e w1 ⟨av, bv, x, rfl, hst, hx5, hb1⟩
  have HB1 := Lib.hid hb1
  have HRA : Hid (SRow (fun _ => True) 34 2 w1 av x.length (batS.flat x)) := ⟨hst.ra, fun _ _ => trivial⟩
  obtain ⟨hf1, hk1, ⟨A1, c1, rfl, hs1, ha1⟩, ⟨A2, c2, rfl, -, -⟩⟩ := hst.both hb1.size
  have HF1 := Lib.hid hf1
  have HK1 := Lib.hid hk1
  have HA1 := Lib.hid ha1.2
  obtain ⟨m, hm⟩ : ∃ m, x.length = m := ⟨_, rfl⟩
  rw [hm] at hx5 hs1 HRA ⊢
  have HM := Lib.hid hm
  clear hb1 hst hf1 hk1 hs1 ha1 hm CS
  go_wp2_with fail
  refine (CT.out _ HB1.out).mono ?_
  rintro e w2 ⟨av, bv, y, rfl, hst, hy5, hb2⟩
  have HB2 := Lib.hid hb2
  have HRY : Hid (SRow (fun _ => True) 34 2 w2 av y.length (batS.flat y)) := ⟨hst.ra, fun _ _ => trivial⟩
  have HRX := Lib.hid (HRA.out.new hb2)
  obtain ⟨hf2, hk2, ⟨A3, c3, rfl, hs3, ha3⟩, ⟨A4, c4, rfl, -, -⟩⟩ := hst.both hb2.size
  have HF2 := Lib.hid hf2
  have HK2 := Lib.hid hk2
  have HY := Lib.hid ha3
  have HX : Hid (∀ b ∈ x, b.here w2 w2.heap.size) := fun b hm => ((HA1.out b hm).below hb2 (Nat.le_refl _)).more hb2.size
  have HB3 : Hid (Below w.heap.size w w2) := HB1.out.trans (hb2.mono HB1.out.size)
  have HSY := Lib.hid hs3
  obtain ⟨k, hk⟩ : ∃ k, y.length = k := ⟨_, rfl⟩
  rw [hk] at hy5 HSY HRY ⊢
  have HK := Lib.hid hk
  clear hb2 hst hf2 hk2 hs3 ha3 hk CT HRA HA1 HB1 HB2
  go_upto_region 4 with fail
  obtain ⟨O1, hO1⟩ : ∃ o, o = Obj.cells #[.int .i64 0, .int .i64 16, .int .i64 3, .slice none 0 0, .slice none 0 0, .int .i64 0] 44 := ⟨_, rfl⟩
  obtain ⟨O2, hO2⟩ : ∃ o, o = Obj.cells #[.int .i64 1, .slice (some ⟨w2.heap.size, 0, none⟩) 1 1] 34 := ⟨_, rfl⟩
  rw [← hO1, ← hO2]
  have hsz : (w2.alloc O1).heap.size = w2.heap.size + 1 := by simp
  have hq1 : (w2.alloc O1).heap[w2.heap.size]? = some O1 := heap_alloc_new w2 O1
  have hq : ((w2.alloc O1).alloc O2).heap[w2.heap.size]? = some O1 := (heap_alloc_old _ O2 (Array.getElem?_eq_some_iff.1 hq1).1).trans hq1
  have hg : ((w2.alloc O1).alloc O2).heap[w2.heap.size + 1]? = some O2 := hsz ▸ heap_alloc_new (w2.alloc O1) O2
  have hbo : Below w2.heap.size w2 ((w2.alloc O1).alloc O2) := ((Below.refl _ w2).alloc (Nat.le_refl _) O1).alloc ((Below.refl _ w2).alloc (Nat.le_refl _) O1).size O2
  have HRXO : Hid (SRow (fun k => k < w2.heap.size) 34 2 ((w2.alloc O1).alloc O2) (.slice A1 m c1) m (batS.flat x)) := (HRX.out.mono (T := fun k => k < w2.heap.size) fun k hk _ => hk).new hbo
  have HRYO : Hid (SRow (fun k => k < w2.heap.size) 34 2 ((w2.alloc O1).alloc O2) (.slice A3 k c3) k (batS.flat y)) := (HRY.out.mono (T := fun k => k < w2.heap.size) fun k hk _ => hk).new hbo
  clear HRX HRY
  subst hO1 hO2
  generalize (w2.alloc (.cells #[.int .i64 0, .int .i64 16, .int .i64 3, .slice none 0 0, .slice none 0 0, .int .i64 0] 44)).alloc (.cells #[.int .i64 1, .slice (some ⟨w2.heap.size, 0, none⟩) 1 1] 34) = wo at *
  have HG := Lib.hid hg
  have HLT : Hid (w2.heap.size + 1 < wo.heap.size) := (Array.getElem?_eq_some_iff.1 hg).1
  have HBO := Lib.hid hbo
  have HALL : Hid (∀ b ∈ (x ++ [btF w2.heap.size]) ++ y, b.here wo wo.heap.size) := fun b hm => by
    rcases List.mem_append.1 hm with hm | hm
    · rcases List.mem_append.1 hm with hm | hm
      · exact ((HX.out b hm).below hbo (Nat.le_refl _)).more hbo.size
      · rw [List.mem_singleton.1 hm]
        exact btF_here hq (Array.getElem?_eq_some_iff.1 hq).1
    · exact ((HY.out.2 b hm).below hbo (Nat.le_refl _)).more hbo.size
  have HF : Hid (∀ b ∈ (x ++ [btF w2.heap.size]) ++ y, b.fds.length ≤ 8) := fun b hm => by
    rcases List.mem_append.1 hm with hm | hm
    · rcases List.mem_append.1 hm with hm | hm
      · exact HF1.out b hm
      · rw [List.mem_singleton.1 hm]
        exact (by show (1 : Nat) ≤ 8; decide)
    · exact HF2.out b hm
  have HKEY : Hid (∀ b ∈ (x ++ [btF w2.heap.size]) ++ y, ∀ f ∈ b.fds, f.rd.n1 ≤ 10) := fun b hm => by
    rcases List.mem_append.1 hm with hm | hm
    · rcases List.mem_append.1 hm with hm | hm
      · exact HK1.out b hm
      · rw [List.mem_singleton.1 hm]
        intro f hf
        rw [List.mem_singleton.1 hf]
        exact (by show (0 : Nat) ≤ 10; decide)
    · exact HK2.out b hm
  have HFIN := Lib.hid (fs_flush x y w2.heap.size)
  have HRX : Hid (SRow (fun k => k < wo.heap.size) 34 2 wo (.slice A1 m c1) m (batS.flat x)) := HRXO.out.mono fun k hk _ => hk
  have HRY : Hid (SRow (fun k => k < wo.heap.size) 34 2 wo (.slice A3 k c3) k (batS.flat y)) := HRYO.out.mono fun k hk _ => hk
  obtain ⟨nn, hnn⟩ : ∃ nn, m + 1 + k = nn := ⟨_, rfl⟩
  have hn12 : nn ≤ 12 := by omega
  have HNN : Hid (((x ++ [btF w2.heap.size]) ++ y).length = nn) := by
    show _ = _
    rw [List.length_append, List.length_append, HM.out, HK.out, ← hnn]
    rfl
  clear HRXO HRYO hq hg hbo hq1 hsz HX HF1 HK1
  go_cut [12] (fun lv wx => ∃ (L : List Tb.Pr) (A6 : Option Addr) (c6 : Nat), lv = .slice A6 L.length c6 ∧ L.length ≤ 1000 ∧ Hid (Rp.Is L (Rp.out now (Rp.fin (fsOf y)))) ∧ Hid (SlIs A6 L.length c6) ∧ Hid (A6 = none ∨ ∃ g, A6 = some ⟨g, 0, none⟩) ∧ Hid (Arr prS wx 0 wx.heap.size A6 L) ∧ Hid (Below wo.heap.size wo wx))
  case first =>
    refine wp_region_held_drew (S := (fun W => Below wo.heap.size wo W ∧ wo.heap.size ≤ W.heap.size)) (by kernel_rfl) (⟨below_drawn (Below.refl _ wo) 1, Nat.le_refl _⟩) (fun hH => ?_)
    change wpAnyH _ _ _ _ _ 10 #[false, false, false, false, false, false, false, false, false, false] _ _
    have HRX0 : Hid (SRow (fun k => k < wo.heap.size) 34 2 wo.drew (.slice A1 m c1) m (batS.flat x)) := HRX.out.new (below_drawn (Below.refl _ wo) 1)
    have HRY0 : Hid (SRow (fun k => k < wo.heap.size) 34 2 wo.drew (.slice A3 k c3) k (batS.flat y)) := HRY.out.new (below_drawn (Below.refl _ wo) 1)
    clear HRX HRY
    change Below wo.heap.size wo wo.drew ∧ _ at hH
    generalize wo.drew = wd at *
    refine held_take (i := 0) (v := ?_) (d := some 27) rfl rfl (by kernel_rfl) (by kernel_rfl) (by kernel_rfl) (fun _ _ _ h => h) hH ⟨?_, fun w hSw => ?_⟩ ?_
    rotate_left 1
    · rfl
    · (go_simp; all_goals with_reducible rfl)
    simp only [Act.put, List.setIfInBounds_toArray, List.set_cons_zero, List.set_cons_succ]
    refine held_take (i := 2) (v := ?_) (d := some 29) rfl rfl (by kernel_rfl) (by kernel_rfl) (by kernel_rfl) (fun _ _ _ h => h) hH ⟨?_, fun w hSw => ?_⟩ ?_
    rotate_left 1
    · rfl
    · obtain ⟨m0, m1⟩ := two_cells_at' ((hSw.1.block _ HLT.out).trans HG.out)
      (go_simp; all_goals with_reducible rfl)
    simp only [Act.put, List.setIfInBounds_toArray, List.set_cons_zero, List.set_cons_succ]
    refine held_take (i := 5) (v := ?_) (d := some 32) rfl rfl (by kernel_rfl) (by kernel_rfl) (by kernel_rfl) (fun _ _ _ h => h) hH ⟨?_, fun w hSw => ?_⟩ ?_
    rotate_left 1
    · rfl
    · (go_simp; all_goals with_reducible rfl)
    simp only [Act.put, List.setIfInBounds_toArray, List.set_cons_zero, List.set_cons_succ]
    refine held_take (i := 7) (v := ?_) (d := some 34) rfl rfl (by kernel_rfl) (by kernel_rfl) (by kernel_rfl) (fun _ _ _ h => h) hH ⟨?_, fun w hSw => ?_⟩ ?_
    rotate_left 1
    · rfl
    · (go_simp; all_goals with_reducible rfl)
    simp only [Act.put, List.setIfInBounds_toArray, List.set_cons_zero, List.set_cons_succ]
    refine held_two (i := 1) (j := 3) rfl rfl (by kernel_rfl) ?_ ?_ (fun K hK => ?_) (fun K hK => ?_)
    · rfl
    · rfl
    · refine op_append_all (Sh := batS) (S := fun _ => False) (U := fun k => k < wo.heap.size) (.const (.slice none 0 0)) (.tmp 27) 22 rfl Try.underlying22 info_bata rfl (.slice none 0 0) 0 [] rfl SRow.nil (.slice A1 m c1) m x rfl HRX0.out (by omega) (by omega) ?_
      intro v1 wn1 hr hk
      have HV1 : Hid (SRow (fun k => wo.heap.size ≤ k) 34 2 wn1 v1 m (batS.flat x)) := by
        rw [Nat.zero_add, List.nil_append] at hr
        exact hr.mono fun k _ h => by
          rcases h with h | h
          · exact h.elim
          · exact Nat.le_trans hH.2 h
      have hbw := hk.below (Nat.le_refl wd.heap.size) (fun k e => e.elim)
      have HRX1 := Lib.hid (HRX0.out.new hbw)
      have HRY1 := Lib.hid (HRY0.out.new hbw)
      replace hH := And.intro (hH.1.trans (hbw.mono hH.2)) (Nat.le_trans hH.2 hbw.size)
      clear hr hk hbw
      refine hK _ _ hH ?_
      clear hK K
      simp only [Act.put, List.setIfInBounds_toArray, List.set_cons_zero, List.set_cons_succ]
      refine held_step (i := 3) rfl (by kernel_rfl) ?_ (fun K hK => ?_)
      · rfl
      go_simp
      have HGB2 := Lib.hid (heap_alloc_new wn1 (.cells #[.int .i64 1, .slice (some ⟨w2.heap.size, 0, none⟩) 1 1] 34))
      have hbw := (Below.refl wn1.heap.size wn1).alloc (Nat.le_refl _) (.cells #[.int .i64 1, .slice (some ⟨w2.heap.size, 0, none⟩) 1 1] 34)
      have HRX2 := Lib.hid (HRX1.out.new hbw)
      have HRY2 := Lib.hid (HRY1.out.new hbw)
      have HV2 := Lib.hid (HV1.out.new hbw)
      replace hH := And.intro (hH.1.trans (hbw.mono hH.2)) (Nat.le_trans hH.2 hbw.size)
      clear hbw
      generalize wn1.alloc (.cells #[.int .i64 1, .slice (some ⟨w2.heap.size, 0, none⟩) 1 1] 34) = wn2 at *
      refine hK _ _ hH ?_
      clear hK K
      simp only [List.setIfInBounds_toArray, List.set_cons_zero, List.set_cons_succ]
      refine held_step (i := 4) rfl (by kernel_rfl) ?_ (fun K hK => ?_)
      · rfl
      refine op_append_one (Sh := batS) (S := fun k => wo.heap.size ≤ k) (.tmp 28) (.tmp 30) 22 rfl Try.underlying22 info_bata rfl v1 m x rfl HV2.out wn1.heap.size 1 (btF w2.heap.size) rfl HGB2.out (by omega) (by omega) ?_
      intro v3 wn3 hr hk
      have HV3 : Hid (SRow (fun k => wo.heap.size ≤ k) 34 2 wn3 v3 (m + 1) (batS.flat (x ++ [btF w2.heap.size]))) := hr.mono fun k _ h => by
        rcases h with h | h
        · exact h
        · exact Nat.le_trans hH.2 h
      have hbw := hk.below hH.2 (fun k e => e)
      have HRY3 := Lib.hid (HRY2.out.kept hk fun k _ e e2 => Nat.lt_irrefl _ (Nat.lt_of_lt_of_le e e2))
      replace hH := And.intro (hH.1.trans hbw) (Nat.le_trans hH.2 hbw.size)
      clear hr hk hbw
      refine hK _ _ hH ?_
      clear hK K
      simp only [Act.put, List.setIfInBounds_toArray, List.set_cons_zero, List.set_cons_succ]
      refine held_step (i := 6) rfl (by kernel_rfl) ?_ (fun K hK => ?_)
      · rfl
      refine op_append_all (Sh := batS) (S := fun k => wo.heap.size ≤ k) (U := fun k => k < wo.heap.size) (.tmp 31) (.tmp 32) 22 rfl Try.underlying22 info_bata rfl v3 (m + 1) (x ++ [btF w2.heap.size]) rfl HV3.out (.slice A3 k c3) k y rfl HRY3.out (by omega) (by omega) ?_
      intro v4 wn4 hr hk
      have HV4 : Hid (SRow (fun k => wo.heap.size ≤ k) 34 2 wn4 v4 (m + 1 + k) (batS.flat ((x ++ [btF w2.heap.size]) ++ y))) := hr.mono fun k _ h => by
        rcases h with h | h
        · exact h
        · exact Nat.le_trans hH.2 h
      have hbw := hk.below hH.2 (fun k e => e)
      replace hH := And.intro (hH.1.trans hbw) (Nat.le_trans hH.2 hbw.size)
      clear hr hk hbw
      refine hK _ _ hH ?_
      clear hK K
      simp only [Act.put, List.setIfInBounds_toArray, List.set_cons_zero, List.set_cons_succ]
      refine held_step (i := 8) rfl (by kernel_rfl) ?_ (fun K hK => ?_)
      · rfl
      obtain ⟨A5, c5, e5, hs5, ha5⟩ := ARow.open_ (S := batS) HV4.out.1
      rw [hnn] at e5 hs5
      subst e5
      go_simp
      refine (rpmap_any A5 wn4.heap.size nn c5 ((x ++ [btF w2.heap.size]) ++ y) now wn4 hs5 (Nat.le_refl _) HNN (by omega) HF HKEY (Lib.hid ⟨ha5, fun b hm => ((HALL.out b hm).below hH.1 (Nat.le_refl _)).more hH.2⟩)).mono ?_
      rintro e wn5 ⟨L, hI, hL, A6, c6, rfl, hs6, hn6, ha6, hb6⟩
      replace hH := And.intro (hH.1.trans (hb6.mono hH.2)) (Nat.le_trans hH.2 hb6.size)
      refine hK _ _ hH ?_
      clear hK K
      simp only [List.setIfInBounds_toArray, List.set_cons_zero, List.set_cons_succ]
      refine held_take (i := 9) (v := ?_) (d := some 12) rfl rfl (by kernel_rfl) (by kernel_rfl) (by kernel_rfl) (fun _ _ _ h => h) hH ⟨?_, fun w hSw => ?_⟩ ?_
      rotate_left 1
      · rfl
      · (go_simp; all_goals with_reducible rfl)
      simp only [Act.put, List.setIfInBounds_toArray, List.set_cons_zero, List.set_cons_succ]
      refine wpAnyH_done (by kernel_rfl) ?_ _
      (try go_wp2_with fail)
      go_meet
      exact ⟨L, A6, c6, rfl, hL, HFIN.out ▸ hI, hs6, hn6, ha6, hH.1⟩
    · go_simp
      have HGB1 := Lib.hid (heap_alloc_new wd (.cells #[.int .i64 1, .slice (some ⟨w2.heap.size, 0, none⟩) 1 1] 34))
      have hbw := (Below.refl wd.heap.size wd).alloc (Nat.le_refl _) (.cells #[.int .i64 1, .slice (some ⟨w2.heap.size, 0, none⟩) 1 1] 34)
      have HRX1 := Lib.hid (HRX0.out.new hbw)
      have HRY1 := Lib.hid (HRY0.out.new hbw)
      replace hH := And.intro (hH.1.trans (hbw.mono hH.2)) (Nat.le_trans hH.2 hbw.size)
      clear hbw
      generalize wd.alloc (.cells #[.int .i64 1, .slice (some ⟨w2.heap.size, 0, none⟩) 1 1] 34) = wn1 at *
      refine hK _ _ hH ?_
      clear hK K
      simp only [List.setIfInBounds_toArray, List.set_cons_zero, List.set_cons_succ]
      refine held_step (i := 1) rfl (by kernel_rfl) ?_ (fun K hK => ?_)
      · rfl
      refine op_append_all (Sh := batS) (S := fun _ => False) (U := fun k => k < wo.heap.size) (.const (.slice none 0 0)) (.tmp 27) 22 rfl Try.underlying22 info_bata rfl (.slice none 0 0) 0 [] rfl SRow.nil (.slice A1 m c1) m x rfl HRX1.out (by omega) (by omega) ?_
      intro v2 wn2 hr hk
      have HV2 : Hid (SRow (fun k => wo.heap.size ≤ k) 34 2 wn2 v2 m (batS.flat x)) := by
        rw [Nat.zero_add, List.nil_append] at hr
        exact hr.mono fun k _ h => by
          rcases h with h | h
          · exact h.elim
          · exact Nat.le_trans hH.2 h
      have hbw := hk.below (Nat.le_refl wn1.heap.size) (fun k e => e.elim)
      have HRX2 := Lib.hid (HRX1.out.new hbw)
      have HRY2 := Lib.hid (HRY1.out.new hbw)
      have HGB2 := Lib.hid ((hbw.block _ (Array.getElem?_eq_some_iff.1 HGB1.out).1).trans HGB1.out)
      replace hH := And.intro (hH.1.trans (hbw.mono hH.2)) (Nat.le_trans hH.2 hbw.size)
      clear hr hk hbw
      refine hK _ _ hH ?_
      clear hK K
      simp only [Act.put, List.setIfInBounds_toArray, List.set_cons_zero, List.set_cons_succ]
      refine held_step (i := 4) rfl (by kernel_rfl) ?_ (fun K hK => ?_)
      · rfl
      refine op_append_one (Sh := batS) (S := fun k => wo.heap.size ≤ k) (.tmp 28) (.tmp 30) 22 rfl Try.underlying22 info_bata rfl v2 m x rfl HV2.out wd.heap.size 1 (btF w2.heap.size) rfl HGB2.out (by omega) (by omega) ?_
      intro v3 wn3 hr hk
      have HV3 : Hid (SRow (fun k => wo.heap.size ≤ k) 34 2 wn3 v3 (m + 1) (batS.flat (x ++ [btF w2.heap.size]))) := hr.mono fun k _ h => by
        rcases h with h | h
        · exact h
        · exact Nat.le_trans hH.2 h
      have hbw := hk.below hH.2 (fun k e => e)
      have HRY3 := Lib.hid (HRY2.out.kept hk fun k _ e e2 => Nat.lt_irrefl _ (Nat.lt_of_lt_of_le e e2))
      replace hH := And.intro (hH.1.trans hbw) (Nat.le_trans hH.2 hbw.size)
      clear hr hk hbw
      refine hK _ _ hH ?_
      clear hK K
      simp only [Act.put, List.setIfInBounds_toArray, List.set_cons_zero, List.set_cons_succ]
      refine held_step (i := 6) rfl (by kernel_rfl) ?_ (fun K hK => ?_)
      · rfl
      refine op_append_all (Sh := batS) (S := fun k => wo.heap.size ≤ k) (U := fun k => k < wo.heap.size) (.tmp 31) (.tmp 32) 22 rfl Try.underlying22 info_bata rfl v3 (m + 1) (x ++ [btF w2.heap.size]) rfl HV3.out (.slice A3 k c3) k y rfl HRY3.out (by omega) (by omega) ?_
      intro v4 wn4 hr hk
      have HV4 : Hid (SRow (fun k => wo.heap.size ≤ k) 34 2 wn4 v4 (m + 1 + k) (batS.flat ((x ++ [btF w2.heap.size]) ++ y))) := hr.mono fun k _ h => by
        rcases h with h | h
        · exact h
        · exact Nat.le_trans hH.2 h
      have hbw := hk.below hH.2 (fun k e => e)
      replace hH := And.intro (hH.1.trans hbw) (Nat.le_trans hH.2 hbw.size)
      clear hr hk hbw
      refine hK _ _ hH ?_
      clear hK K
      simp only [Act.put, List.setIfInBounds_toArray, List.set_cons_zero, List.set_cons_succ]
      refine held_step (i := 8) rfl (by kernel_rfl) ?_ (fun K hK => ?_)
      · rfl
      obtain ⟨A5, c5, e5, hs5, ha5⟩ := ARow.open_ (S := batS) HV4.out.1
      rw [hnn] at e5 hs5
      subst e5
      go_simp
      refine (rpmap_any A5 wn4.heap.size nn c5 ((x ++ [btF w2.heap.size]) ++ y) now wn4 hs5 (Nat.le_refl _) HNN (by omega) HF HKEY (Lib.hid ⟨ha5, fun b hm => ((HALL.out b hm).below hH.1 (Nat.le_refl _)).more hH.2⟩)).mono ?_
      rintro e wn5 ⟨L, hI, hL, A6, c6, rfl, hs6, hn6, ha6, hb6⟩
      replace hH := And.intro (hH.1.trans (hb6.mono hH.2)) (Nat.le_trans hH.2 hb6.size)
      refine hK _ _ hH ?_
      clear hK K
      simp only [List.setIfInBounds_toArray, List.set_cons_zero, List.set_cons_succ]
      refine held_take (i := 9) (v := ?_) (d := some 12) rfl rfl (by kernel_rfl) (by kernel_rfl) (by kernel_rfl) (fun _ _ _ h => h) hH ⟨?_, fun w hSw => ?_⟩ ?_
      rotate_left 1
      · rfl
      · (go_simp; all_goals with_reducible rfl)
      simp only [Act.put, List.setIfInBounds_toArray, List.set_cons_zero, List.set_cons_succ]
      refine wpAnyH_done (by kernel_rfl) ?_ _
      (try go_wp2_with fail)
      go_meet
      exact ⟨L, A6, c6, rfl, hL, HFIN.out ▸ hI, hs6, hn6, ha6, hH.1⟩
  case rest =>
    obtain ⟨L, A6, c6, rfl, hL, HI, HS6, HN6, HA6, HB6⟩ := hcut
    generalize wc = w3 at *
    have HB3' : Hid (Below w2.heap.size w2 w3) := HBO.out.trans (HB6.out.mono HBO.out.size)
    clear HB6 HALL HF HKEY HFIN HRX HRY HG HLT HBO hn12 hnn HNN
    clear wo
    go_wp2_with fail
    refine (CA.out _).mono ?_
    rintro e w4 ⟨rfl, hb4⟩
    have HB4 : Hid (Below w2.heap.size w2 w4) := HB3'.out.trans (hb4.mono HB3'.out.size)
    have HA4 := Lib.hid (HA6.out.below hb4 (Nat.le_refl _))
    have HZ4 : Hid (w3.heap.size ≤ w4.heap.size) := hb4.size
    clear hb4 HA6
    go_wp2_with fail
    refine (rpmap_any A3 w2.heap.size k c3 y now w4 HSY.out HB4.out.size HK (by omega) HF2 HK2 (Lib.hid (HY.out.below HB4.out (Nat.le_refl _)))).mono ?_
    rintro e w5 ⟨L2, hI2, -, A7, c7, rfl, hs7, hn7, ha7, hb5⟩
    obtain rfl := hI2.one HI.out
    have HB5 : Hid (Below w2.heap.size w2 w5) := HB4.out.trans (hb5.mono HB4.out.size)
    have HE := Lib.hid (prs_eq hL HS6.out hs7 HN6.out hn7 (HA4.out.below hb5 HZ4.out) ha7)
    clear hI2 hs7 hn7 ha7 hb5
    go_wp2_with fail
    refine HE.out.mono ?_
    rintro e w6 ⟨rfl, hb6⟩
    have HB6 : Hid (Below w2.heap.size w2 w6) := HB5.out.trans (hb6.mono HB5.out.size)
    go_wp2_with fail
    go_ret
    exact ⟨rfl, HB3.out.trans (HB6.out.mono HB3.out.size)⟩
end Go.Proofs.Ytcdomlgnfbdeoaa
