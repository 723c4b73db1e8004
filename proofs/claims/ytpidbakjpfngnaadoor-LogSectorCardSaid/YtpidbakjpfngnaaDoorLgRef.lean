/-
  The walks of the reference's Replay and Eq.
-/
import Derived.Test.YtpidbakjpfngnaaDoorLgRead
import Derived.Test.YtpidbakjpfngnaaDoorPlRefDec
set_option maxRecDepth 100000
namespace Go.Proofs.YtpidbakjpfngnaaDoor
open Go.RowKit
theorem bs_sec {w : World} {B : Nat} {ad : Addr} {l : List Nat} {x : Nat} (h : Bs w B (some ad) l) : Bs w B (some (ad.add (x * 64))) (sec l x) :=
  ((h.bsIn.drop (x * 64)).take 64).bs
set_option maxHeartbeats 4000000 in
theorem refreplay_any (m : Int) (A : Option Addr) (B n c : Nat) (l : List Nat) (w : World) (hB : B ≤ w.heap.size) (hs : SlIs A n c) (hl : Hid (l.length = n)) (hn : 4736 ≤ n) (hb : Hid (Bs w B A l)) :
    Calls Tryd.prog 18 #[.slice A n c, .int .i64 m] w (RepIs w (Lg.replay l m)) := by
  obtain ⟨ad, rfl⟩ : ∃ ad, A = some ad := by
    obtain ⟨_, ad, e, _⟩ := hb.out 0 (by rw [hl.out]; omega)
    exact ⟨ad, e⟩
  unfold RepIs
  have hcc := hs.2.1
  have hc2 := hs.2.2
  by_cases h1 : 1 ≤ m
  · have d1 : decide (1 ≤ m) = true := decide_eq_true h1
    have HSO := Lib.hid (fun (k : Nat) W => reflgsector_any m (k : Int) W)
    have HSE : Hid (∀ k : Nat, k < 36 → ∃ x : Nat, Lg.sector m (k : Int) = (x : Int) ∧ x < 74) := fun k hk => by
      have := Lg.sector_range (Lg.in_range h1 hk)
      exact ⟨(Lg.sector m (k : Int)).toNat, by omega, by omega⟩
    have HDE : Hid (∀ W (k x : Nat), k < 36 → Lg.sector m (k : Int) = (x : Int) → x < 74 → Below w.heap.size w W → Calls Tryd.prog 35 #[.slice (some (ad.add (x * 64))) 64 (c - x * 64), .int .i64 (x : Int)] W fun r w' =>
        (∃ p, (p.mig = m ∧ p.idx = (k : Int)) ∧ Lg.here l m (k : Int) = some p ∧ GotPl W p r w') ∨ (∃ p, ¬ (p.mig = m ∧ p.idx = (k : Int)) ∧ Lg.here l m (k : Int) = none ∧ GotPl W p r w') ∨ (Lg.here l m (k : Int) = none ∧ NoPl W r w')) := fun W k x hk hx hx2 hW => by
      have hlx : x * 64 + 64 ≤ l.length := by rw [hl.out]; omega
      have h := refpldec_any (x : Int) (some (ad.add (x * 64))) B 64 (c - x * 64) (sec l x) W (Nat.le_trans hB hW.size) ⟨(fun e => by cases e), by omega, by omega⟩ (show (sec l x).length = 64 by unfold sec; rw [List.length_take, List.length_drop]; omega) (bs_sec (hb.out.below hW hB)) (by decide)
      exact h.mono fun r w' h => dec_here (by rw [hx]; exact h)
    unfold GotPl NoPl at HDE
    clear hb hB hl
    go_enter Tryd.func18, Tryd.ntmps18
    go_wp2_with fail
    go_loopw [5, 6] (fun rv iv wr => ∃ (k : Nat) (out : List Pl.P), iv = .int .i64 (k : Int) ∧ Hid (Lg.Part l m k out) ∧ Hid (PRow wr w.heap.size rv k out) ∧ Hid (Below w.heap.size w wr)) (fun _ i _ => 36 - (Go.RowKit.intOf i).toNat)
    case atStart => exact ⟨0, [], rfl, Lg.part_start l m, PRow.nil _ _, Below.refl _ _⟩
    case round =>
      obtain ⟨k, out, rfl, hp, hrow, hbel⟩ := hrel
      have hk := hp.out.1
      by_cases hlt : k < 36
      · obtain ⟨x, hx, hx2⟩ := HSE.out k hlt
        have HSK := Lib.hid (HSO.out k)
        rw [hx] at HSK
        have HC := Lib.hid (HDE.out wr k x hlt hx hx2 hbel.out)
        have hcx : ¬ (c = x * 64) := by omega
        clear hx
        go_wp2_with fail
        refine (HSK.out _).mono ?_
        rintro r w1 ⟨rfl, rfl⟩
        go_wp2_with fail
        refine HC.out.mono ?_
        rintro r w1 (⟨⟨p0, p1, p2, p3, ⟨p4, p5, p6, p7⟩⟩, ⟨e1, e2⟩, ho, rfl, hb1⟩ | ⟨⟨p0, p1, p2, p3, ⟨p4, p5, p6, p7⟩⟩, hne, ho, rfl, hb1⟩ | ⟨ho, rfl, hb1⟩)
        · have HN := Lib.hid (Lg.part_next hp.out hlt ho)
          simp only at e1 e2 HN ⊢
          have E1 : (p1 != m) = false := by rw [e1]; simp
          have E2 : (p2 != (k : Int)) = false := by rw [e2]; simp
          clear e1 e2
          have HB2 : Hid (Below w.heap.size w (w1.alloc (.cells #[.int .i64 p0, .int .i64 p1, .int .i64 p2, .int .i64 p3, .int .i64 p4, .int .i64 p5, .int .i64 p6, .int .i64 p7] 34))) := (hbel.out.trans (hb1.mono hbel.out.size)).alloc (hbel.out.trans (hb1.mono hbel.out.size)).size _
          have HR2 := Lib.hid ((hrow.out.stays hb1).made (.cells #[.int .i64 p0, .int .i64 p1, .int .i64 p2, .int .i64 p3, .int .i64 p4, .int .i64 p5, .int .i64 p6, .int .i64 p7] 34))
          have HX2 : Hid ((w1.alloc (.cells #[.int .i64 p0, .int .i64 p1, .int .i64 p2, .int .i64 p3, .int .i64 p4, .int .i64 p5, .int .i64 p6, .int .i64 p7] 34)).heap[w1.heap.size]? = some (.cells #[.int .i64 p0, .int .i64 p1, .int .i64 p2, .int .i64 p3, .int .i64 p4, .int .i64 p5, .int .i64 p6, .int .i64 p7] 34 (0, 0))) := heap_alloc_new _ _
          clear hb1
          clear hp hrow hbel ho
          go_upto_region 7 with fail
          generalize w1.alloc (.cells #[.int .i64 p0, .int .i64 p1, .int .i64 p2, .int .i64 p3, .int .i64 p4, .int .i64 p5, .int .i64 p6, .int .i64 p7] 34) = w2 at *
          have HB3 : Hid (Below w.heap.size w (w2.alloc (.cells #[.int .i64 p0, .int .i64 p1, .int .i64 p2, .int .i64 p3, .int .i64 p4, .int .i64 p5, .int .i64 p6, .int .i64 p7] 34))) := HB2.out.alloc HB2.out.size _
          have HR3 := Lib.hid (HR2.out.made (.cells #[.int .i64 p0, .int .i64 p1, .int .i64 p2, .int .i64 p3, .int .i64 p4, .int .i64 p5, .int .i64 p6, .int .i64 p7] 34))
          have HX3 : Hid ((w2.alloc (.cells #[.int .i64 p0, .int .i64 p1, .int .i64 p2, .int .i64 p3, .int .i64 p4, .int .i64 p5, .int .i64 p6, .int .i64 p7] 34)).heap[w2.heap.size]? = some (.cells #[.int .i64 p0, .int .i64 p1, .int .i64 p2, .int .i64 p3, .int .i64 p4, .int .i64 p5, .int .i64 p6, .int .i64 p7] 34 (0, 0))) := heap_alloc_new _ _
          obtain ⟨y0, y1, y2, y3, y4, y5, y6, y7⟩ := eight_cells HX2.out
          go_wp2_with (at_builtin; refine wpList_append_rec rfl (.tmp 48) (.tmp 50) rfl w.heap.size k w2.heap.size 1 _ out ⟨p0, p1, p2, p3, ⟨p4, p5, p6, p7⟩⟩ rfl HR3.out rfl HX3.out (by omega) HB3.out.size ?_; intro v4 w4 hr4 hb4)
          have HR4 := Lib.hid hr4
          have HB4 := Lib.hid (HB3.out.trans hb4)
          clear hr4 hb4
          go_wp2_with fail
          go_roundw
          case rel => exact ⟨k + 1, _, by go_num, HN, HR4, HB4⟩
          case measure => simp [Go.RowKit.intOf]; omega
        · have HE := Lg.part_stop hp.out ho
          have HL := hp.out.2.1
          simp only at hne ⊢
          have HB2 : Hid (Below w.heap.size w (w1.alloc (.cells #[.int .i64 p0, .int .i64 p1, .int .i64 p2, .int .i64 p3, .int .i64 p4, .int .i64 p5, .int .i64 p6, .int .i64 p7] 34))) := (hbel.out.trans (hb1.mono hbel.out.size)).alloc (hbel.out.trans (hb1.mono hbel.out.size)).size _
          have HR2 := Lib.hid ((hrow.out.stays hb1).made (.cells #[.int .i64 p0, .int .i64 p1, .int .i64 p2, .int .i64 p3, .int .i64 p4, .int .i64 p5, .int .i64 p6, .int .i64 p7] 34))
          have HX2 : Hid ((w1.alloc (.cells #[.int .i64 p0, .int .i64 p1, .int .i64 p2, .int .i64 p3, .int .i64 p4, .int .i64 p5, .int .i64 p6, .int .i64 p7] 34)).heap[w1.heap.size]? = some (.cells #[.int .i64 p0, .int .i64 p1, .int .i64 p2, .int .i64 p3, .int .i64 p4, .int .i64 p5, .int .i64 p6, .int .i64 p7] 34 (0, 0))) := heap_alloc_new _ _
          clear hb1
          clear hp hrow hbel ho
          by_cases e1 : p1 = m
          · have E1 : (p1 != m) = false := by rw [e1]; simp
            have E2 : (p2 != (k : Int)) = true := by rw [bne_iff_ne]; exact fun e => hne ⟨e1, e⟩
            clear hne e1
            go_upto_region 7 with fail
            generalize w1.alloc (.cells #[.int .i64 p0, .int .i64 p1, .int .i64 p2, .int .i64 p3, .int .i64 p4, .int .i64 p5, .int .i64 p6, .int .i64 p7] 34) = w2 at *
            obtain ⟨y0, y1, y2, y3, y4, y5, y6, y7⟩ := eight_cells HX2.out
            go_wp2_with fail
            go_ret
            refine ⟨_, rfl, ?_, HB2.out⟩
            rw [HE, HL]
            exact HR2.out
          · have E1 : (p1 != m) = true := by rw [bne_iff_ne]; exact e1
            clear hne e1
            go_upto_region 7 with fail
            generalize w1.alloc (.cells #[.int .i64 p0, .int .i64 p1, .int .i64 p2, .int .i64 p3, .int .i64 p4, .int .i64 p5, .int .i64 p6, .int .i64 p7] 34) = w2 at *
            obtain ⟨y0, y1, y2, y3, y4, y5, y6, y7⟩ := eight_cells HX2.out
            go_wp2_with fail
            go_ret
            refine ⟨_, rfl, ?_, HB2.out⟩
            rw [HE, HL]
            exact HR2.out
        · have HE := Lg.part_stop hp.out ho
          have HL := hp.out.2.1
          have HR1 := Lib.hid (hrow.out.stays hb1)
          have HB1 : Hid (Below w.heap.size w (w1.alloc (.cells #[.int .i64 0, .int .i64 0, .int .i64 0, .int .i64 0, .int .i64 0, .int .i64 0, .int .i64 0, .int .i64 0] 34))) := (hbel.out.trans (hb1.mono hbel.out.size)).alloc (hbel.out.trans (hb1.mono hbel.out.size)).size _
          have HR2 := Lib.hid (HR1.out.made (.cells #[.int .i64 0, .int .i64 0, .int .i64 0, .int .i64 0, .int .i64 0, .int .i64 0, .int .i64 0, .int .i64 0] 34))
          clear hb1
          go_wp2_with fail
          go_ret
          refine ⟨_, rfl, ?_, HB1.out⟩
          rw [HE, HL]
          exact HR2.out
      · obtain rfl : k = 36 := by omega
        have HE := Lg.part_end hp.out
        have HL := hp.out.2.1
        go_wp2_with fail
        go_ret
        refine ⟨_, rfl, ?_, hbel.out⟩
        rw [HE, HL]
        exact hrow.out
  · have d1 : decide (1 ≤ m) = false := decide_eq_false h1
    rw [Lg.replay_none h1]
    go_enter Tryd.func18, Tryd.ntmps18
    go_wp2_with fail
    go_loopw [5, 6] (fun rv iv wr => rv = .slice none 0 0 ∧ iv = .int .i64 0 ∧ wr = w) (fun _ i _ => 36 - (Go.RowKit.intOf i).toNat)
    case atStart => exact ⟨rfl, rfl, rfl⟩
    case round =>
      obtain ⟨rfl, rfl, rfl⟩ := hrel
      go_wp2_with fail
      go_ret
      exact ⟨_, rfl, PRow.nil _ _, Below.refl _ _⟩
set_option maxHeartbeats 4000000 in
theorem refleq_any (A A' : Option Addr) (lo B n n' c c' : Nat) (l l' : List Pl.P) (w : World) (hl : Hid (l.length = n)) (hl' : Hid (l'.length = n')) (hn : n ≤ 140737488355328) (hn' : n' ≤ 140737488355328) (hb : Hid (Pls w lo B A l)) (hb' : Hid (Pls w lo B A' l')) :
    Calls Tryd.prog 16 #[.slice A n c, .slice A' n' c'] w fun r w' => r = .returned (.bool (decide (l = l'))) ∧ Below w.heap.size w w' := by
  have HB0 := Lib.hid (Below.refl w.heap.size w)
  go_enter Tryd.func16, Tryd.ntmps16
  by_cases he : n = n'
  · subst he
    go_wp2
    go_loopw [5, 13] (fun xv iv wr => ∃ k q : Nat, k ≤ n ∧ iv = .int .i64 k ∧ wr = w.drewN q ∧ Hid (∀ j, j < k → l.getD j P0 = l'.getD j P0)) (fun _ i _ => n - (Go.RowKit.intOf i).toNat)
    case atStart => exact ⟨0, 0, Nat.zero_le _, rfl, rfl, fun j hj => absurd hj (by omega)⟩
    case round =>
      obtain ⟨k, q, hk, rfl, rfl, hz⟩ := hrel
      by_cases hlt : k < n
      · obtain ⟨ad, rfl⟩ := pls_some hb.out (k := k) (by rw [hl.out]; exact hlt)
        obtain ⟨ad', rfl⟩ := pls_some hb'.out (k := k) (by rw [hl'.out]; exact hlt)
        obtain ⟨⟨e0, e1, e2, e3, ⟨e4, e5, e6, e7⟩⟩, HX⟩ : ∃ p, Hid (l.getD k P0 = p) := ⟨_, rfl⟩
        obtain ⟨⟨f0, f1, f2, f3, ⟨f4, f5, f6, f7⟩⟩, HY⟩ : ∃ p, Hid (l'.getD k P0 = p) := ⟨_, rfl⟩
        obtain ⟨m0, m1, m2, m3, m4, m5, m6, m7⟩ := hb.out.at k (by rw [hl.out]; exact hlt) _ HX.out
        obtain ⟨p0, p1, p2, p3, p4, p5, p6, p7⟩ := hb'.out.at k (by rw [hl'.out]; exact hlt) _ HY.out
        simp only at m0 m1 m2 m3 m4 m5 m6 m7 p0 p1 p2 p3 p4 p5 p6 p7
        have hq := fun W : World => plan_eq W e0 e1 e2 e3 e4 e5 e6 e7 f0 f1 f2 f3 f4 f5 f6 f7
        have HS := Lib.hid (Pl.same_iff ⟨e0, e1, e2, e3, ⟨e4, e5, e6, e7⟩⟩ ⟨f0, f1, f2, f3, ⟨f4, f5, f6, f7⟩⟩)
        generalize Pl.same ⟨e0, e1, e2, e3, ⟨e4, e5, e6, e7⟩⟩ ⟨f0, f1, f2, f3, ⟨f4, f5, f6, f7⟩⟩ = t at *
        cases t with
        | true =>
          have HE := Lib.hid (HS.out.1 rfl)
          clear HS
          go_wp2
          go_quiet (fail)
          go_wp2
          go_roundw
          case rel =>
            refine ⟨k + 1, _, by omega, by go_num, rfl, fun j hj => ?_⟩
            rcases Nat.lt_or_ge j k with h | h
            · exact hz.out j h
            · obtain rfl : j = k := by omega
              exact HX.out.trans (HE.out.trans HY.out.symm)
          case measure => simp [Go.RowKit.intOf]; omega
        | false =>
          have HE : Hid (l ≠ l') := fun e => by
            have h1 := HX.out
            rw [e, HY.out] at h1
            have := HS.out.2 h1.symm
            cases this
          clear HS
          go_wp2
          go_quiet (fail)
          go_wp2
          go_ret
          exact ⟨ret_bool (by rw [decide_eq_false HE.out]), below_drawn (below_drawn HB0.out _) _⟩
      · obtain rfl : k = n := by omega
        have HE : Hid (l = l') := recs_ext (hl.out.trans hl'.out.symm) (by rw [hl.out]; exact hz.out)
        go_wp2
        go_ret
        exact ⟨ret_bool (by rw [decide_eq_true HE.out]), below_drawn HB0.out _⟩
  · have HE : Hid (l ≠ l') := fun e => he (by rw [← hl.out, ← hl'.out, e])
    go_wp2
    go_ret
    exact ⟨ret_bool (by rw [decide_eq_false HE.out]), HB0.out⟩
end Go.Proofs.YtpidbakjpfngnaaDoor
