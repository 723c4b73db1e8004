/-
  The walks of package planlog: read, Replay.
-/
import Derived.Test.YtpidbakjpfngnaaDoorLgWalk
set_option maxRecDepth 100000
namespace Go.Proofs.YtpidbakjpfngnaaDoor
open Go.RowKit
/-- What read finds. -/
def ReadIs (w : World) (o : Option Pl.P) (r : Ending) (w' : World) : Prop := (∃ p, o = some p ∧ GotPl w p r w') ∨ (o = none ∧ NoPl w r w')
theorem dec_here {w w' : World} {r : Ending} {l : List Nat} {m i : Int} (h : DecPl w (Lg.sector m i) (sec l (Lg.sector m i).toNat) r w') :
    (∃ p, (p.mig = m ∧ p.idx = i) ∧ Lg.here l m i = some p ∧ GotPl w p r w') ∨ (∃ p, ¬ (p.mig = m ∧ p.idx = i) ∧ Lg.here l m i = none ∧ GotPl w p r w') ∨ (Lg.here l m i = none ∧ NoPl w r w') := by
  rcases h with ⟨p, h1, h2⟩ | ⟨h1, h2⟩
  · by_cases hm : p.mig = m ∧ p.idx = i
    · exact .inl ⟨p, hm, Lg.here_some h1 hm.1 hm.2, h2⟩
    · refine .inr (.inl ⟨p, hm, Lg.here_none fun q hq => ?_, h2⟩)
      rw [← Lg.good_one h1 hq]
      exact hm
  · exact .inr (.inr ⟨Lg.here_none fun q hq => absurd ⟨q, hq⟩ h1, h2⟩)
set_option maxHeartbeats 4000000 in
theorem lgread_any (m i : Int) (g cb mb nn : Nat) (fs : Flash) (w : World) (hn : 74 ≤ nn) (hdead : Hid (fs.dead = false)) (ht : Hid (Tabs w)) (hd : Hid (Dev w g cb mb nn fs)) :
    Calls Tryd.prog 34 #[.pointer (some ⟨g, 0, none⟩), .int .i64 m, .int .i64 i] w (ReadIs w (Lg.here fs.cur m i)) := by
  have HSO := Lib.hid (fun W => lgsector_any m i W)
  have HDV : Hid (∀ W, Below w.heap.size w W → Dev W g cb mb nn fs) := fun W hW => hd.out.below hW hd.out.lt.1 hd.out.lt.2.1 hd.out.lt.2.2
  have HS0 := Lib.hid (sd_new w #[.int .i64 0, .int .i64 0, .int .i64 0, .int .i64 0, .int .i64 0, .int .i64 0, .int .i64 0, .int .i64 0] 34)
  unfold ReadIs
  by_cases hr : 1 ≤ m ∧ 0 ≤ i ∧ i < 36
  · have hrg := Lg.sector_range hr
    have HRD : Hid (∀ W, Below w.heap.size w W → Calls Tryd.prog 49 #[.pointer (some ⟨g, 0, none⟩), .int .i64 (Lg.sector m i)] W (ReadOk W (sec fs.cur (Lg.sector m i).toNat))) := fun W hW =>
      read_ok (Lg.sector m i).toNat (Lg.sector m i) (by omega) (by omega) (Lib.hid (HDV.out W hW)) hdead
    have HDE : Hid (∀ W gr cap, Below w.heap.size w W → (sec fs.cur (Lg.sector m i).toNat).length = 64 → Bs W W.heap.size (some ⟨gr, 0, none⟩) (sec fs.cur (Lg.sector m i).toNat) → 64 ≤ cap → cap ≤ maxLen → Calls Tryd.prog 50 #[.slice (some ⟨gr, 0, none⟩) 64 cap, .int .i64 (Lg.sector m i)] W fun r w' =>
        (∃ p, (p.mig = m ∧ p.idx = i) ∧ Lg.here fs.cur m i = some p ∧ GotPl W p r w') ∨ (∃ p, ¬ (p.mig = m ∧ p.idx = i) ∧ Lg.here fs.cur m i = none ∧ GotPl W p r w') ∨ (Lg.here fs.cur m i = none ∧ NoPl W r w')) := fun W gr cap hW h64 hbs h1 h2 =>
      (pldecode_any (Lg.sector m i) _ W.heap.size 64 cap _ W (Nat.le_refl _) ⟨(fun e => by cases e), h1, by unfold maxLen at h2; exact h2⟩ h64 hbs (ht.out.next hW).1 (ht.out.next hW).2.2.1).mono fun r w' h => dec_here h
    unfold ReadOk at HRD
    unfold GotPl NoPl at *
    clear ht hd hdead hrg hr
    generalize sec fs.cur (Lg.sector m i).toNat = l at *
    generalize Lg.sector m i = x at *
    generalize Lg.here fs.cur m i = o at *
    go_enter Tryd.func34, Tryd.ntmps34
    go_upto_region 1 with fail
    generalize w.alloc (.cells #[.int .i64 0, .int .i64 0, .int .i64 0, .int .i64 0, .int .i64 0, .int .i64 0, .int .i64 0, .int .i64 0] 34) = w0 at *
    go_wp2_with fail
    refine (HSO.out _).mono ?_
    rintro r w1 ⟨rfl, rfl⟩
    go_wp2_with fail
    refine (HRD.out _ HS0.out.2).mono ?_
    rintro r w2 ⟨gr, cap, rfl, -, h64, hbs, hc1, hc2, hb2⟩
    have HS2 := Lib.hid (HS0.out.next hb2 (by rfl) (by rfl) (by rfl) (by rfl))
    have HC := Lib.hid (HDE.out _ gr cap HS2.out.2 h64 hbs hc1 hc2)
    clear hb2 h64 hbs hc1 hc2 HDE HRD
    go_wp2_with fail
    refine HC.out.mono ?_
    rintro r w3 (⟨⟨p0, p1, p2, p3, ⟨p4, p5, p6, p7⟩⟩, ⟨e1, e2⟩, HO, rfl, hb3⟩ | ⟨⟨p0, p1, p2, p3, ⟨p4, p5, p6, p7⟩⟩, hne, HO, rfl, hb3⟩ | ⟨HO, rfl, hb3⟩)
    · simp only at e1 e2
      subst e1 e2
      have HS3 := Lib.hid (HS2.out.next hb3 (by rfl) (by rfl) (by rfl) (by rfl))
      have HS4 := Lib.hid (sd_made (cs' := #[.int .i64 p0, .int .i64 p1, .int .i64 p2, .int .i64 p3, .int .i64 p4, .int .i64 p5, .int .i64 p6, .int .i64 p7]) (t' := 34) HS3.out)
      have HN4 : Hid ((w3.alloc (.cells #[.int .i64 p0, .int .i64 p1, .int .i64 p2, .int .i64 p3, .int .i64 p4, .int .i64 p5, .int .i64 p6, .int .i64 p7] 34)).heap[w3.heap.size]? = some (.cells #[.int .i64 p0, .int .i64 p1, .int .i64 p2, .int .i64 p3, .int .i64 p4, .int .i64 p5, .int .i64 p6, .int .i64 p7] 34 (0, 0))) := heap_alloc_new _ _
      clear hb3
      obtain ⟨y0, y1, y2, y3, y4, y5, y6, y7⟩ := eight_cells HS4.out.1
      obtain ⟨f0, f1, f2, f3, f4, f5, f6, f7⟩ := eight_frozen HS4.out.1
      obtain ⟨z0, z1, z2, z3, z4, z5, z6, z7⟩ := eight_cells HN4.out
      go_wp2_with fail
      (try simp only [Exit.inBlock, Exit.then])
      refine bodyPost_ret (results_row2 rfl _ _ w.heap.size _ _ (0, 0) _ rfl (stored8 HS4.out.1) Tryd.underlying34 rfl (by kernel_rfl)) rfl ?_
      exact .inl ⟨_, HO, rfl, sd8_res HS4.out (Nat.le_refl _)⟩
    · simp only at hne
      by_cases e1 : p1 = m
      · have e2 : (p2 != i) = true := by rw [bne_iff_ne]; exact fun e => hne ⟨e1, e⟩
        subst e1
        clear hne
        have HS3 := Lib.hid (HS2.out.next hb3 (by rfl) (by rfl) (by rfl) (by rfl))
        have HS4 := Lib.hid (sd_made (cs' := #[.int .i64 p0, .int .i64 p1, .int .i64 p2, .int .i64 p3, .int .i64 p4, .int .i64 p5, .int .i64 p6, .int .i64 p7]) (t' := 34) HS3.out)
        have HN4 : Hid ((w3.alloc (.cells #[.int .i64 p0, .int .i64 p1, .int .i64 p2, .int .i64 p3, .int .i64 p4, .int .i64 p5, .int .i64 p6, .int .i64 p7] 34)).heap[w3.heap.size]? = some (.cells #[.int .i64 p0, .int .i64 p1, .int .i64 p2, .int .i64 p3, .int .i64 p4, .int .i64 p5, .int .i64 p6, .int .i64 p7] 34 (0, 0))) := heap_alloc_new _ _
        clear hb3
        obtain ⟨y0, y1, y2, y3, y4, y5, y6, y7⟩ := eight_cells HS4.out.1
        obtain ⟨f0, f1, f2, f3, f4, f5, f6, f7⟩ := eight_frozen HS4.out.1
        obtain ⟨z0, z1, z2, z3, z4, z5, z6, z7⟩ := eight_cells HN4.out
        go_wp2_with fail
        (try simp only [Exit.inBlock, Exit.then])
        refine bodyPost_ret (results_row2 rfl _ _ w.heap.size _ _ (0, 0) _ rfl (stored8 HS4.out.1) Tryd.underlying34 rfl (by kernel_rfl)) rfl ?_
        exact .inr ⟨HO, rfl, sd8_res HS4.out (Nat.le_refl _)⟩
      · have e2 : (p1 != m) = true := by rw [bne_iff_ne]; exact e1
        clear hne e1
        have HS3 := Lib.hid (HS2.out.next hb3 (by rfl) (by rfl) (by rfl) (by rfl))
        have HS4 := Lib.hid (sd_made (cs' := #[.int .i64 p0, .int .i64 p1, .int .i64 p2, .int .i64 p3, .int .i64 p4, .int .i64 p5, .int .i64 p6, .int .i64 p7]) (t' := 34) HS3.out)
        have HN4 : Hid ((w3.alloc (.cells #[.int .i64 p0, .int .i64 p1, .int .i64 p2, .int .i64 p3, .int .i64 p4, .int .i64 p5, .int .i64 p6, .int .i64 p7] 34)).heap[w3.heap.size]? = some (.cells #[.int .i64 p0, .int .i64 p1, .int .i64 p2, .int .i64 p3, .int .i64 p4, .int .i64 p5, .int .i64 p6, .int .i64 p7] 34 (0, 0))) := heap_alloc_new _ _
        clear hb3
        obtain ⟨y0, y1, y2, y3, y4, y5, y6, y7⟩ := eight_cells HS4.out.1
        obtain ⟨f0, f1, f2, f3, f4, f5, f6, f7⟩ := eight_frozen HS4.out.1
        obtain ⟨z0, z1, z2, z3, z4, z5, z6, z7⟩ := eight_cells HN4.out
        go_wp2_with fail
        (try simp only [Exit.inBlock, Exit.then])
        refine bodyPost_ret (results_row2 rfl _ _ w.heap.size _ _ (0, 0) _ rfl (stored8 HS4.out.1) Tryd.underlying34 rfl (by kernel_rfl)) rfl ?_
        exact .inr ⟨HO, rfl, sd8_res HS4.out (Nat.le_refl _)⟩
    · have HS3 := Lib.hid (HS2.out.next hb3 (by rfl) (by rfl) (by rfl) (by rfl))
      have HS4 := Lib.hid (sd_made (cs' := #[.int .i64 0, .int .i64 0, .int .i64 0, .int .i64 0, .int .i64 0, .int .i64 0, .int .i64 0, .int .i64 0]) (t' := 34) HS3.out)
      clear hb3
      obtain ⟨y0, y1, y2, y3, y4, y5, y6, y7⟩ := eight_cells HS4.out.1
      obtain ⟨f0, f1, f2, f3, f4, f5, f6, f7⟩ := eight_frozen HS4.out.1
      go_wp2_with fail
      (try simp only [Exit.inBlock, Exit.then])
      refine bodyPost_ret (results_row2 rfl _ _ w.heap.size _ _ (0, 0) _ rfl (stored8 HS4.out.1) Tryd.underlying34 rfl (by kernel_rfl)) rfl ?_
      exact .inr ⟨HO, rfl, sd8_res HS4.out (Nat.le_refl _)⟩
  · have HRD : Hid (∀ W, Below w.heap.size w W → Calls Tryd.prog 49 #[.pointer (some ⟨g, 0, none⟩), .int .i64 (-1)] W (ReadNo W 2)) := fun W hW =>
      read_range (-1) (by omega) (Lib.hid (HDV.out W hW)) hdead
    have HO := Lg.here_out (l := fs.cur) hr
    rw [Lg.sector_out hr] at HSO
    unfold ReadNo at HRD
    unfold GotPl NoPl
    clear ht hd hdead hr HDV
    go_enter Tryd.func34, Tryd.ntmps34
    go_upto_region 1 with fail
    generalize w.alloc (.cells #[.int .i64 0, .int .i64 0, .int .i64 0, .int .i64 0, .int .i64 0, .int .i64 0, .int .i64 0, .int .i64 0] 34) = w0 at *
    go_wp2_with fail
    refine (HSO.out _).mono ?_
    rintro r w1 ⟨rfl, rfl⟩
    go_wp2_with fail
    refine (HRD.out _ HS0.out.2).mono ?_
    rintro r w2 ⟨rfl, rfl⟩
    obtain ⟨y0, y1, y2, y3, y4, y5, y6, y7⟩ := eight_cells HS0.out.1
    obtain ⟨f0, f1, f2, f3, f4, f5, f6, f7⟩ := eight_frozen HS0.out.1
    go_wp2_with fail
    (try simp only [Exit.inBlock, Exit.then])
    refine bodyPost_ret (results_row2 rfl _ _ w.heap.size _ _ (0, 0) _ rfl (stored8 HS0.out.1) Tryd.underlying34 rfl (by kernel_rfl)) rfl ?_
    exact .inr ⟨HO, rfl, sd8_res HS0.out (Nat.le_refl _)⟩
/-- What Replay finds: a row of its own. -/
def RepIs (w : World) (l : List Pl.P) (r : Ending) (w' : World) : Prop := ∃ v, r = .returned v ∧ PRow w' w.heap.size v l.length l ∧ Below w.heap.size w w'
set_option maxHeartbeats 4000000 in
theorem replay_any (m : Int) (g cb mb nn : Nat) (fs : Flash) (w : World) (hn : 74 ≤ nn) (hdead : Hid (fs.dead = false)) (ht : Hid (Tabs w)) (hd : Hid (Dev w g cb mb nn fs)) :
    Calls Tryd.prog 17 #[.pointer (some ⟨g, 0, none⟩), .int .i64 m] w (RepIs w (Lg.replay fs.cur m)) := by
  have HRD : Hid (∀ W (k : Nat), Below w.heap.size w W → Calls Tryd.prog 34 #[.pointer (some ⟨g, 0, none⟩), .int .i64 m, .int .i64 (k : Int)] W (ReadIs W (Lg.here fs.cur m (k : Int)))) := fun W k hW =>
    lgread_any m (k : Int) g cb mb nn fs W hn hdead (ht.out.next hW) (hd.out.below hW hd.out.lt.1 hd.out.lt.2.1 hd.out.lt.2.2)
  unfold ReadIs GotPl NoPl at HRD
  unfold RepIs
  generalize fs.cur = l at *
  clear ht hd hdead
  go_enter Tryd.func17, Tryd.ntmps17
  go_wp2_with fail
  go_loopw [5, 9] (fun rv iv wr => ∃ (k : Nat) (out : List Pl.P), iv = .int .i64 (k : Int) ∧ Hid (Lg.Part l m k out) ∧ Hid (PRow wr w.heap.size rv k out) ∧ Hid (Below w.heap.size w wr)) (fun _ i _ => 36 - (Go.RowKit.intOf i).toNat)
  case atStart => exact ⟨0, [], rfl, Lg.part_start l m, PRow.nil _ _, Below.refl _ _⟩
  case round =>
    obtain ⟨k, out, rfl, hp, hrow, hbel⟩ := hrel
    have hk := hp.out.1
    by_cases hlt : k < 36
    · go_wp2_with fail
      refine (HRD.out _ k hbel.out).mono ?_
      rintro r w1 (⟨⟨p0, p1, p2, p3, ⟨p4, p5, p6, p7⟩⟩, ho, rfl, hb1⟩ | ⟨ho, rfl, hb1⟩)
      · have HN := Lib.hid (Lg.part_next hp.out hlt ho)
        have HB2 : Hid (Below w.heap.size w (w1.alloc (.cells #[.int .i64 p0, .int .i64 p1, .int .i64 p2, .int .i64 p3, .int .i64 p4, .int .i64 p5, .int .i64 p6, .int .i64 p7] 34))) := (hbel.out.trans (hb1.mono hbel.out.size)).alloc (hbel.out.trans (hb1.mono hbel.out.size)).size _
        have HR2 := Lib.hid ((hrow.out.stays hb1).made (.cells #[.int .i64 p0, .int .i64 p1, .int .i64 p2, .int .i64 p3, .int .i64 p4, .int .i64 p5, .int .i64 p6, .int .i64 p7] 34))
        have HX2 : Hid ((w1.alloc (.cells #[.int .i64 p0, .int .i64 p1, .int .i64 p2, .int .i64 p3, .int .i64 p4, .int .i64 p5, .int .i64 p6, .int .i64 p7] 34)).heap[w1.heap.size]? = some (.cells #[.int .i64 p0, .int .i64 p1, .int .i64 p2, .int .i64 p3, .int .i64 p4, .int .i64 p5, .int .i64 p6, .int .i64 p7] 34 (0, 0))) := heap_alloc_new _ _
        (try simp only at HN)
        clear hb1 hp hrow hbel ho
        go_upto_region 6 with fail
        generalize w1.alloc (.cells #[.int .i64 p0, .int .i64 p1, .int .i64 p2, .int .i64 p3, .int .i64 p4, .int .i64 p5, .int .i64 p6, .int .i64 p7] 34) = w2 at *
        have HB3 : Hid (Below w.heap.size w (w2.alloc (.cells #[.int .i64 p0, .int .i64 p1, .int .i64 p2, .int .i64 p3, .int .i64 p4, .int .i64 p5, .int .i64 p6, .int .i64 p7] 34))) := HB2.out.alloc HB2.out.size _
        have HR3 := Lib.hid (HR2.out.made (.cells #[.int .i64 p0, .int .i64 p1, .int .i64 p2, .int .i64 p3, .int .i64 p4, .int .i64 p5, .int .i64 p6, .int .i64 p7] 34))
        have HX3 : Hid ((w2.alloc (.cells #[.int .i64 p0, .int .i64 p1, .int .i64 p2, .int .i64 p3, .int .i64 p4, .int .i64 p5, .int .i64 p6, .int .i64 p7] 34)).heap[w2.heap.size]? = some (.cells #[.int .i64 p0, .int .i64 p1, .int .i64 p2, .int .i64 p3, .int .i64 p4, .int .i64 p5, .int .i64 p6, .int .i64 p7] 34 (0, 0))) := heap_alloc_new _ _
        obtain ⟨y0, y1, y2, y3, y4, y5, y6, y7⟩ := eight_cells HX2.out
        go_wp2_with (at_builtin; refine wpList_append_rec rfl (.tmp 21) (.tmp 23) rfl w.heap.size k w2.heap.size 1 _ out ⟨p0, p1, p2, p3, ⟨p4, p5, p6, p7⟩⟩ rfl HR3.out rfl HX3.out (by omega) HB3.out.size ?_; intro v4 w4 hr4 hb4)
        have HR4 := Lib.hid hr4
        have HB4 := Lib.hid (HB3.out.trans hb4)
        clear hr4 hb4
        go_wp2_with fail
        go_roundw
        case rel => exact ⟨k + 1, _, by go_num, HN, HR4, HB4⟩
        case measure => simp [Go.RowKit.intOf]; omega
      · have HE := Lg.part_stop hp.out ho
        have HL := hp.out.2.1
        have HR1 := Lib.hid (hrow.out.stays hb1)
        have HB1 : Hid (Below w.heap.size w (w1.alloc (.cells #[.int .i64 0, .int .i64 0, .int .i64 0, .int .i64 0, .int .i64 0, .int .i64 0, .int .i64 0, .int .i64 0] 34))) := (hbel.out.trans (hb1.mono hbel.out.size)).alloc (hbel.out.trans (hb1.mono hbel.out.size)).size _
        have HR2 := Lib.hid (HR1.out.made (.cells #[.int .i64 0, .int .i64 0, .int .i64 0, .int .i64 0, .int .i64 0, .int .i64 0, .int .i64 0, .int .i64 0] 34))
        clear hb1
        go_wp2_with fail
        go_ret
        refine ⟨_, rfl, ?_, HB1.out⟩
        rw [HE, HL]
        exact HR2.out
    · obtain rfl : k = 36 := by omega
      have HE := Lg.part_end hp.out
      have HL := hp.out.2.1
      go_wp2_with fail
      go_ret
      refine ⟨_, rfl, ?_, hbel.out⟩
      rw [HE, HL]
      exact hrow.out
end Go.Proofs.YtpidbakjpfngnaaDoor
