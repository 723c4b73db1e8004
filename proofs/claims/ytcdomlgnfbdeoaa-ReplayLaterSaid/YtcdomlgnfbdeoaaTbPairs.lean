/-
  The walks of places.appendPairs and Table.Pairs.
-/
import Derived.Test.YtcdomlgnfbdeoaaTbSort
import Derived.Test.YtcdomlgnfbdeoaaHold
import Derived.Test.YtcdomlgnfbdeoaaRowApp
set_option maxRecDepth 100000
namespace Go.Proofs.Ytcdomlgnfbdeoaa
open Go.RowKit
theorem its_le (l : List Tb.Pl) (i : Nat) : (Tb.its (l.take i)).length ≤ i := by
  rw [Tb.its_length]
  exact Nat.le_trans (Tb.cnt_le _) (List.length_take_le _ _)
set_option maxHeartbeats 4000000 in
theorem tbapp_any (q o d base m : Nat) (l : List Tb.Pl) (P : List Tb.Pr) (pv0 : Value) (w : World) (hbase : base ≤ w.heap.size) (hqb : q < base) (hdb : d < base) (hn1 : l.length ≤ 400000) (hm1 : m ≤ 400000) (hv : w.cell? ⟨q, o, none⟩ = some (.slice (some ⟨d, 0, none⟩) l.length l.length)) (hd : w.heap[d]? = some (.cells (plS.flat l).toArray 84 (0, 0)))
    (hks : ∀ i, (Tb.g l i).st = 1 → (Tb.g l i).k.size ≤ 1048576) (hst0 : ∀ i, (Tb.g l i).st = 0 ∨ (Tb.g l i).st = 1 ∨ (Tb.g l i).st = 2) (hr : SRow (fun k => base ≤ k) 38 6 w pv0 m (prS.flat P)) :
    Calls Try.prog 24 #[.pointer (some ⟨q, o, none⟩), pv0] w fun e w' => ∃ pv, e = .returned pv ∧ SRow (fun k => base ≤ k) 38 6 w' pv (m + (Tb.its l).length) (prS.flat (P ++ Tb.its l)) ∧ Below base w w' ∧ (Tb.its l = [] → pv = pv0) := by
  have hd := Lib.hid hd
  obtain ⟨n, hn⟩ : ∃ n, l.length = n := ⟨_, rfl⟩
  rw [hn] at hv hn1
  have HN := Lib.hid hn
  clear hn
  have hr := Lib.hid hr
  have HKS := Lib.hid hks
  have HST0 := Lib.hid hst0
  clear hks hst0
  have hvc : Hid (∀ W, Below base w W → W.cell? ⟨q, o, none⟩ = some (.slice (some ⟨d, 0, none⟩) n n)) := fun W h => (h.cell (p := ⟨q, o, none⟩) hqb).trans hv
  go_enter Try.func24, Try.ntmps24
  go_wp2_with fail
  clear hv
  go_loopw [1, 12] (fun pv iv wr => ∃ i : Nat, i ≤ n ∧ iv = .int .i64 (i : Int) ∧ Hid (SRow (fun k => base ≤ k) 38 6 wr pv (m + (Tb.its (l.take i)).length) (prS.flat (P ++ Tb.its (l.take i)))) ∧ Hid (Below base w wr) ∧ Hid (Tb.its (l.take i) = [] → pv = pv0)) (fun _ i _ => n - (Go.RowKit.intOf i).toNat)
  case atStart => exact ⟨0, Nat.zero_le _, rfl, by rw [List.take_zero]; show Hid (SRow _ _ _ _ _ (m + 0) (prS.flat (P ++ []))); rw [List.append_nil]; exact hr, Below.refl _ _, fun _ => rfl⟩
  case round =>
    obtain ⟨i, hi, rfl, hrow, hbel, hnil⟩ := hrel
    generalize hpv : u1 = pv at *
    clear hpv
    by_cases hlt : i < n
    · have hil : i < l.length := by rw [HN.out]; exact hlt
      have HNX := Lib.hid (Tb.its_next l i hil)
      generalize hp : Tb.g l i = p at HNX
      have HPP := Lib.hid hp
      have hks1 : p.st = 1 → p.k.size ≤ 1048576 := by rw [← hp]; exact HKS.out i
      have hst := HST0.out i
      rw [hp] at hst
      obtain ⟨c0, c1, c2, c3, c4, c5, c6, c7⟩ := pl_cells ((hbel.out.block d hdb).trans hd.out) i hil p hp
      clear hp
      have hvw := hvc.out _ hbel.out
      obtain ⟨ps, ph, pk, ⟨e0, e1, e2, e3, e4⟩⟩ := p
      simp only at c0 c1 c2 c3 c4 c5 c6 c7 hst hks1 HNX
      by_cases h1 : ps = 1
      · subst h1
        have HSZ := Lib.hid (hks1 rfl)
        have HM9 : Hid (m + (Tb.its (l.take i)).length ≤ 1000000) := by show _ ≤ _; have := its_le l i; omega
        have HM8 : Hid ((m + (Tb.its (l.take i)).length + 1) * 56 ≤ 140737488355328) := by show _ ≤ _; have := its_le l i; omega
        rw [if_pos rfl] at HNX
        clear hks1 hst
        go_upto_region 6 with fail
        clear c0 c1 c2 c3 c4 c5 c6 c7 hvw
        have HC6 : Hid (∀ W, Below base w W → W.cell? ⟨d, i * 8 + 2, none⟩ = some (.string pk) ∧ W.cell? ⟨d, i * 8 + 3, none⟩ = some (.int .i64 e0) ∧ W.cell? ⟨d, i * 8 + 4, none⟩ = some (.int .i64 e1) ∧ W.cell? ⟨d, i * 8 + 5, none⟩ = some (.int .i64 e2) ∧ W.cell? ⟨d, i * 8 + 6, none⟩ = some (.int .i64 e3) ∧ W.cell? ⟨d, i * 8 + 7, none⟩ = some (.bool e4)) := fun W hB => by
          obtain ⟨-, -, b2, b3, b4, b5, b6, b7⟩ := pl_cells ((hB.block d hdb).trans hd) i (by omega) _ HPP.out
          exact ⟨b2, b3, b4, b5, b6, b7⟩
        have HBa : Hid (Below base w wr.drew) := below_drew2 hbel.out
        have HRa : Hid (SRow (fun k => base ≤ k) 38 6 wr.drew pv _ _) := hrow.out.new ⟨rfl, rfl, rfl, Nat.le_refl _, fun _ _ => rfl⟩
        refine wp_region_held_drew (S := fun W => W.cell? ⟨d, i * 8 + 2, none⟩ = some (.string pk) ∧ W.cell? ⟨d, i * 8 + 3, none⟩ = some (.int .i64 e0) ∧ W.cell? ⟨d, i * 8 + 4, none⟩ = some (.int .i64 e1) ∧ W.cell? ⟨d, i * 8 + 5, none⟩ = some (.int .i64 e2) ∧ W.cell? ⟨d, i * 8 + 6, none⟩ = some (.int .i64 e3) ∧ W.cell? ⟨d, i * 8 + 7, none⟩ = some (.bool e4)) (by kernel_rfl) (HC6.out _ HBa.out) (fun hH => ?_)
        change wpAnyH _ _ _ _ _ 14 #[false, false, false, false, false, false, false, false, false, false, false, false, false, false] _ _
        clear hH
        generalize wr.drew = wa at *
        refine held_take (i := 0) (v := ?_) (d := some 26) rfl rfl (by kernel_rfl) (by kernel_rfl) (by kernel_rfl) (fun _ _ _ h => h) (HC6.out _ HBa.out) ⟨?_, fun w hSw => ?_⟩ ?_
        rotate_left 1
        · rfl
        · (go_simp; all_goals with_reducible rfl)
        simp only [Act.put, List.setIfInBounds_toArray, List.set_cons_zero, List.set_cons_succ]
        refine held_take (i := 1) (v := ?_) (d := some 27) rfl rfl (by kernel_rfl) (by kernel_rfl) (by kernel_rfl) (fun _ _ _ h => h) (HC6.out _ HBa.out) ⟨?_, fun w hSw => ?_⟩ ?_
        rotate_left 1
        · rfl
        · (go_simp; all_goals with_reducible rfl)
        simp only [Act.put, List.setIfInBounds_toArray, List.set_cons_zero, List.set_cons_succ]
        refine held_take (i := 2) (v := ?_) (d := some 28) rfl rfl (by kernel_rfl) (by kernel_rfl) (by kernel_rfl) (fun _ _ _ h => h) (HC6.out _ HBa.out) ⟨?_, fun w hSw => ?_⟩ ?_
        rotate_left 1
        · rfl
        · (go_simp; all_goals with_reducible rfl)
        simp only [Act.put, List.setIfInBounds_toArray, List.set_cons_zero, List.set_cons_succ]
        refine held_take (i := 3) (v := ?_) (d := some 29) rfl rfl (by kernel_rfl) (by kernel_rfl) (by kernel_rfl) (fun _ _ _ h => h) (HC6.out _ HBa.out) ⟨?_, fun w hSw => ?_⟩ ?_
        rotate_left 1
        · rfl
        · (go_simp; all_goals with_reducible rfl)
        simp only [Act.put, List.setIfInBounds_toArray, List.set_cons_zero, List.set_cons_succ]
        refine held_take (i := 4) (v := ?_) (d := some 30) rfl rfl (by kernel_rfl) (by kernel_rfl) (by kernel_rfl) (fun _ _ _ h => h) (HC6.out _ HBa.out) ⟨?_, fun w hSw => ?_⟩ ?_
        rotate_left 1
        · rfl
        · obtain ⟨y1, y2, y3, y4, y5, y6⟩ := hSw
          (go_simp; all_goals with_reducible rfl)
        simp only [Act.put, List.setIfInBounds_toArray, List.set_cons_zero, List.set_cons_succ]
        refine held_take (i := 6) (v := ?_) (d := some 32) rfl rfl (by kernel_rfl) (by kernel_rfl) (by kernel_rfl) (fun _ _ _ h => h) (HC6.out _ HBa.out) ⟨?_, fun w hSw => ?_⟩ ?_
        rotate_left 1
        · rfl
        · (go_simp; all_goals with_reducible rfl)
        simp only [Act.put, List.setIfInBounds_toArray, List.set_cons_zero, List.set_cons_succ]
        refine held_take (i := 7) (v := ?_) (d := some 33) rfl rfl (by kernel_rfl) (by kernel_rfl) (by kernel_rfl) (fun _ _ _ h => h) (HC6.out _ HBa.out) ⟨?_, fun w hSw => ?_⟩ ?_
        rotate_left 1
        · rfl
        · (go_simp; all_goals with_reducible rfl)
        simp only [Act.put, List.setIfInBounds_toArray, List.set_cons_zero, List.set_cons_succ]
        refine held_take (i := 8) (v := ?_) (d := some 34) rfl rfl (by kernel_rfl) (by kernel_rfl) (by kernel_rfl) (fun _ _ _ h => h) (HC6.out _ HBa.out) ⟨?_, fun w hSw => ?_⟩ ?_
        rotate_left 1
        · rfl
        · (go_simp; all_goals with_reducible rfl)
        simp only [Act.put, List.setIfInBounds_toArray, List.set_cons_zero, List.set_cons_succ]
        refine held_take (i := 9) (v := ?_) (d := some 35) rfl rfl (by kernel_rfl) (by kernel_rfl) (by kernel_rfl) (fun _ _ _ h => h) (HC6.out _ HBa.out) ⟨?_, fun w hSw => ?_⟩ ?_
        rotate_left 1
        · rfl
        · obtain ⟨y1, y2, y3, y4, y5, y6⟩ := hSw
          (go_simp; all_goals with_reducible rfl)
        simp only [Act.put, List.setIfInBounds_toArray, List.set_cons_zero, List.set_cons_succ]
        refine held_step (i := 5) rfl (by kernel_rfl) ?_ (fun K hK => ?_)
        · rfl
        go_simp
        refine (strclone_any pk HSZ.out wa).mono ?_
        rintro e w1x ⟨rfl, hb1⟩
        have HB1 := Lib.hid (HBa.out.trans (hb1.mono (Nat.le_trans hbase HBa.out.size)))
        have HR1 := Lib.hid (HRa.out.new hb1)
        clear hb1
        refine hK _ _ (HC6.out _ HB1.out) ?_
        clear hK K
        simp only [List.setIfInBounds_toArray, List.set_cons_zero, List.set_cons_succ]
        refine held_take (i := 10) (v := ?_) (d := some 36) rfl rfl (by kernel_rfl) (by kernel_rfl) (by kernel_rfl) (fun _ _ _ h => h) (HC6.out _ HB1.out) ⟨?_, fun w hSw => ?_⟩ ?_
        rotate_left 1
        · rfl
        · (go_simp; all_goals with_reducible rfl)
        simp only [Act.put, List.setIfInBounds_toArray, List.set_cons_zero, List.set_cons_succ]
        refine held_step (i := 11) rfl (by kernel_rfl) ?_ (fun K hK => ?_)
        · rfl
        go_simp
        have HL2 : Hid (Below w1x.heap.size w1x (w1x.alloc (.cells #[.string pk, .int .i64 e0, .int .i64 e1, .int .i64 e2, .int .i64 e3, .bool e4] 38))) := (Below.refl _ _).alloc (Nat.le_refl _) _
        have HX2 := Lib.hid (heap_alloc_new w1x (.cells #[.string pk, .int .i64 e0, .int .i64 e1, .int .i64 e2, .int .i64 e3, .bool e4] 38))
        have HB2 := Lib.hid (HB1.out.trans (HL2.out.mono (Nat.le_trans hbase HB1.out.size)))
        have HR2 := Lib.hid (HR1.out.new HL2.out)
        clear HL2
        generalize w1x.alloc (.cells #[.string pk, .int .i64 e0, .int .i64 e1, .int .i64 e2, .int .i64 e3, .bool e4] 38) = w2x at *
        generalize w1x.heap.size = q2 at *
        refine hK _ _ (HC6.out _ HB2.out) ?_
        clear hK K
        simp only [List.setIfInBounds_toArray, List.set_cons_zero, List.set_cons_succ]
        refine held_step (i := 12) rfl (by kernel_rfl) ?_ (fun K hK => ?_)
        · rfl
        refine op_append_one' (Sh := prS) 38 rfl (.tmp 26) (.tmp 37) 28 rfl Try.underlying28 info_pair rfl pv (m + (Tb.its (l.take i)).length) (P ++ Tb.its (l.take i)) rfl HR2.out q2 1 (pk, ⟨e0, e1, e2, e3, e4⟩) rfl HX2.out HM9.out HM8.out ?_
        intro v3 w3x hr3 hk3
        have HR3 := Lib.hid (hr3.mono fun k _ h => h.elim id fun h => Nat.le_trans (Nat.le_trans hbase HB2.out.size) h)
        have HB3 := Lib.hid (HB2.out.trans (hk3.below (Nat.le_trans hbase HB2.out.size) fun k h => h))
        clear hr3 hk3
        refine hK _ _ (HC6.out _ HB3.out) ?_
        clear hK K
        simp only [Act.put, List.setIfInBounds_toArray, List.set_cons_zero, List.set_cons_succ]
        refine held_take (i := 13) (v := ?_) (d := some 1) rfl rfl (by kernel_rfl) (by kernel_rfl) (by kernel_rfl) (fun _ _ _ h => h) (HC6.out _ HB3.out) ⟨?_, fun w hSw => ?_⟩ ?_
        rotate_left 1
        · rfl
        · (go_simp; all_goals with_reducible rfl)
        simp only [Act.put, List.setIfInBounds_toArray, List.set_cons_zero, List.set_cons_succ]
        refine wpAnyH_done (by kernel_rfl) ?_ _
        (try go_wp2_with fail)
        go_roundw
        case rel => exact ⟨i + 1, by omega, by go_num, by rw [HNX.out, List.length_append, ← List.append_assoc]; exact HR3, HB3, fun e => absurd (HNX.out.symm.trans e) (by simp)⟩
        case measure => simp [Go.RowKit.intOf]; omega
      · have HS : Hid ((Tb.its (l.take (i + 1))) = Tb.its (l.take i)) := by show _ = _; rw [HNX.out, if_neg h1, List.append_nil]
        have hrow2 : Hid (SRow (fun k => base ≤ k) 38 6 wr pv (m + (Tb.its (l.take (i + 1))).length) (prS.flat (P ++ Tb.its (l.take (i + 1))))) := by rw [HS.out]; exact hrow
        clear HNX hks1 hil
        rcases hst with rfl | h | rfl
        · go_wp2_with fail
          go_roundw
          case rel => exact ⟨i + 1, by omega, by go_num, hrow2, hbel, fun e => hnil.out (HS.out.symm.trans e)⟩
          case measure => simp [Go.RowKit.intOf]; omega
        · exact absurd h h1
        · go_wp2_with fail
          go_roundw
          case rel => exact ⟨i + 1, by omega, by go_num, hrow2, hbel, fun e => hnil.out (HS.out.symm.trans e)⟩
          case measure => simp [Go.RowKit.intOf]; omega
    · have hin : i = n := by omega
      have HE : Hid (l.take i = l) := List.take_of_length_le (by rw [HN.out]; omega)
      rw [HE.out] at hrow hnil
      clear HE
      subst hin
      go_wp2_with fail
      go_ret
      exact ⟨_, rfl, hrow.out, hbel.out, hnil.out⟩
theorem tbapp_nil (q o : Nat) (pv0 : Value) (w : World) (hv : w.cell? ⟨q, o, none⟩ = some (.slice none 0 0)) :
    Calls Try.prog 24 #[.pointer (some ⟨q, o, none⟩), pv0] w fun e w' => e = .returned pv0 ∧ w = w' := by
  go_enter Try.func24, Try.ntmps24
  go_wp2_with fail
  go_loopw [1, 12] (fun pv iv wr => pv = pv0 ∧ iv = .int .i64 0 ∧ wr = w) (fun _ _ _ => 0)
  case atStart => exact ⟨rfl, rfl, rfl⟩
  case round =>
    obtain ⟨rfl, rfl, rfl⟩ := hrel
    go_wp2_with fail
    go_ret
    exact ⟨rfl, rfl⟩
theorem tbapp_all (q o base m : Nat) (v : Value) (l : List Tb.Pl) (P : List Tb.Pr) (pv0 : Value) (w : World) (hbase : base ≤ w.heap.size) (hqb : q < base) (hdb : ∀ k, v.ownBlock = some k → k < base) (hn1 : l.length ≤ 400000) (hm1 : m ≤ 400000) (hv : w.cell? ⟨q, o, none⟩ = some v) (hp : PlAt w v l)
    (hks : ∀ i, (Tb.g l i).st = 1 → (Tb.g l i).k.size ≤ 1048576) (hst0 : ∀ i, (Tb.g l i).st = 0 ∨ (Tb.g l i).st = 1 ∨ (Tb.g l i).st = 2) (hr : SRow (fun k => base ≤ k) 38 6 w pv0 m (prS.flat P)) :
    Calls Try.prog 24 #[.pointer (some ⟨q, o, none⟩), pv0] w fun e w' => ∃ pv, e = .returned pv ∧ SRow (fun k => base ≤ k) 38 6 w' pv (m + (Tb.its l).length) (prS.flat (P ++ Tb.its l)) ∧ Below base w w' ∧ (Tb.its l = [] → pv = pv0) := by
  rcases hp with ⟨rfl, rfl⟩ | ⟨d, h0, rfl, hd⟩
  · refine (tbapp_nil q o pv0 w hv).mono ?_
    rintro e w' ⟨rfl, rfl⟩
    exact ⟨pv0, rfl, by show SRow _ _ _ _ _ (m + 0) (prS.flat (P ++ [])); rw [List.append_nil]; exact hr, Below.refl _ _, fun _ => rfl⟩
  · exact tbapp_any q o d base m l P pv0 w hbase hqb (hdb d rfl) hn1 hm1 hv hd hks hst0 hr
/-- A row of pairs as the sort has it. -/
theorem row_holds {w : World} {S : Nat → Prop} {g c : Nat} {L : List Tb.Pr} (h : SRow S 38 6 w (.slice (some ⟨g, 0, none⟩) L.length c) L.length (prS.flat L)) : Go.Sort.HoldsK prc 6 w g 0 L.toArray ∧ g < w.heap.size ∧ L.length ≤ c ∧ c ≤ maxLen := by
  rcases h.1.2 with ⟨e1, -⟩ | ⟨g', cap, cur, e1, hb, hg, hnc, hcm, hsz, htk⟩
  · cases e1
  · injection e1 with e1 e2 e3
    injection e1 with e1
    injection e1 with e1
    subst e1 e3
    refine ⟨fun j hj => ?_, (Array.getElem?_eq_some_iff.1 hg).1, hnc, hcm⟩
    rw [Go.Sort.size_flatK, List.size_toArray] at hj
    have hj6 : j % 6 < 6 := Nat.mod_lt _ (by decide)
    have hjl : j / 6 < L.length := by omega
    have e2 := prS.flat_at L (j / 6) (j % 6) hjl hj6
    rw [show j / 6 * prS.m + j % 6 = j from by show j / 6 * 6 + j % 6 = j; omega] at e2
    have e4 : L.getD (j / 6) prS.z = L[j / 6] := by rw [List.getD_eq_getElem?_getD, List.getElem?_eq_getElem hjl]; rfl
    rw [e4] at e2
    have e5 : (Go.Sort.flatK prc 6 L.toArray)[j]! = (prc L[j / 6])[j % 6]'(show j % 6 < (prc L[j / 6]).length from hj6) := by
      rw [Go.Sort.get_flatK prc 6 L.toArray j (by rw [List.size_toArray]; exact hj), getElem!_pos L.toArray (j / 6) (by rw [List.size_toArray]; exact hjl)]
      exact getElem!_pos (prc L[j / 6]) (j % 6) (show j % 6 < (prc L[j / 6]).length from hj6)
    refine ⟨?_, by rw [Nat.zero_add]; exact frozen_of_row w g _ _ _ hg⟩
    have hc := h.1.cells (g := g) rfl j _ (e2.trans (List.getElem?_eq_getElem (show j % 6 < (prc L[j / 6]).length from hj6)))
    rw [arr_flat, Nat.zero_add] at hc
    rw [Nat.zero_add, e5]
    exact hc
theorem holds_arr {w : World} {g lo B : Nat} {L : List Tb.Pr} (h : Go.Sort.HoldsK prc 6 w g 0 L.toArray) (h1 : lo ≤ g) (h2 : g < B) : Arr prS w lo B (some ⟨g, 0, none⟩) L := fun k hk => by
  refine ⟨_, rfl, h1, h2, fun j v e => ?_⟩
  have hj : j < 6 := by
    rcases Nat.lt_or_ge j 6 with h3 | h3
    · exact h3
    · rw [List.getElem?_eq_none (show (prS.cs (L.getD k prS.z)).length ≤ j from h3)] at e; cases e
  have hc := (h.cell (i := k) (c := j) (by rw [List.size_toArray]; exact hk) hj).1
  have e4 : L.getD k prS.z = L[k] := by rw [List.getD_eq_getElem?_getD, List.getElem?_eq_getElem hk]; rfl
  rw [e4] at e
  rw [getElem!_pos L.toArray k (by rw [List.size_toArray]; exact hk)] at hc
  have e5 : (prc L.toArray[k])[j]! = v := by
    have h6 : (prc L[k])[j]? = some v := e
    rw [getElem!_pos (prc L.toArray[k]) j hj]
    exact (List.getElem?_eq_some_iff.1 h6).2
  rw [e5, Nat.zero_add] at hc
  rw [arr_flat, Nat.zero_add]
  exact hc
end Go.Proofs.Ytcdomlgnfbdeoaa
