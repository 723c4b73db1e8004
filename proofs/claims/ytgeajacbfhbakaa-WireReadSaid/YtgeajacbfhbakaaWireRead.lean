/-
  The walk of the statement on a sequence of reads.
-/
import Derived.Test.YtgeajacbfhbakaaWireLaws
import Derived.Test.YtgeajacbfhbakaaPairs
import Derived.Deep.DeepCutAuto
import Derived.Deep.CutBlock
namespace Go.Proofs.Ytgeajacbfhbakaa
open Go.RowKit
theorem below_drew {B : Nat} {a w : World} (h : Below B a w) (n : Nat) : Below B a (w.drewN n) := ⟨h.os, h.tape, h.output, h.size, h.block⟩
theorem drop_all {l : List Nat} {m a r : Nat} (hl : l.length = m) (h : r + a = m) : (l.drop a).length = r := by rw [List.length_drop]; omega
theorem all_next (l : List Nat) (k x : Nat) (hk : k < l.length) (hx : l.getD k 0 = x) : (l.take (k + 1)).all (· == 0) = ((l.take k).all (· == 0) && (x == 0)) := by
  rw [take_next l k x hk hx, List.all_append]; simp
theorem all_less (l : List Nat) (k n : Nat) (h : k ≤ n) (hf : (l.take k).all (· == 0) = false) : (l.take n).all (· == 0) = false := by
  rw [Bool.eq_false_iff] at hf ⊢
  intro e
  apply hf
  rw [List.all_eq_true] at e ⊢
  intro x hx
  have : l.take k = (l.take n).take k := by rw [List.take_take, Nat.min_eq_left h]
  rw [this] at hx
  exact e x (List.mem_of_mem_take hx)
set_option maxRecDepth 100000 in
set_option maxHeartbeats 4000000 in
theorem wireread_any (A : Option Addr) (n cap : Nat) (l : List Nat) (A' : Option Addr) (n' cap' : Nat) (w : World) (hA : A = none → cap = 0 ∧ n = 0) (hl : Hid (l.length = n)) (hn : n ≤ cap) (hcap : cap ≤ 9223372036854775807) (hb : Hid (Bs w w.heap.size A l))
    (hp : Hid (Prs w w.heap.size A' n')) :
    Calls Try.prog 5 #[.slice A n cap, .slice A' n' cap'] w fun e w' => e = .returned (.bool true) ∧ Below w.heap.size w w' := by
  obtain ⟨m, k0, hm, hk, hbk, hm40⟩ := cutk hl.out hb.out 40
  have HA : Hid (A = none → m = 0 ∧ cap = 0) := fun e => ⟨by have := hA e; omega, (hA e).1⟩
  have hmc : m ≤ cap := by omega
  clear hA
  go_enter Try.func5, Try.ntmps5
  go_upto_region 1 with fail
  go_cut [0] (fun s wx => s = .slice A m cap ∧ w = wx)
  case first =>
    rcases hm with ⟨h, rfl⟩ | ⟨h, rfl⟩
    all_goals
      go_wp2_with fail
      go_meet
      exact ⟨rfl, rfl⟩
  case rest =>
    obtain ⟨rfl, rfl⟩ := hcut
    clear hm
    go_wp2_with fail
    refine (newreader_any A w.heap.size _ cap k0 _ (fun e => ⟨(HA.out e).2, (HA.out e).1⟩) hk (by omega) hbk).mono ?_
    rintro e w1 ⟨g, rfl, hr1, hb1⟩
    have HR1 := Lib.hid hr1
    have HB1 := Lib.hid hb1
    clear hr1 hb1
    go_wp2_with fail
    go_loopg [6, 7, 8, 9, 10, 11, 12, 13, 14] 12 (fun gh av gv iv _ _ _ _ _ _ wr => ∃ (i a : Nat) (good : Bool), i ≤ n' ∧ i + gh = 12 ∧ Hid (a + (k0.drop a).length = k0.length) ∧ iv = .int .i64 i ∧ av = .int .i64 a ∧ gv = .bool good ∧ Hid (Rdr wr w.heap.size g (!good) (if good = true then k0.drop a else [])) ∧ Hid (Below w.heap.size w wr))
    case atStart => exact ⟨0, 0, true, by omega, by omega, by show _ = _; simp, rfl, rfl, rfl, HR1.out, HB1⟩
    case round =>
      obtain ⟨i, a, good, hi, hi12, har, rfl, rfl, rfl, hrd, hbel⟩ := hrel
      obtain ⟨r, hr⟩ : ∃ r, (k0.drop a).length = r := ⟨_, rfl⟩
      have har2 : a + r = m := by rw [← hr, har.out, hk.out]
      have HAR := Lib.hid har2
      have HR := Lib.hid hr
      have ha : a ≤ m := by omega
      have hsub : (m : Int) - (a : Int) = (r : Int) := by omega
      clear har2 hr
      obtain ⟨wo, rfl⟩ : ∃ wo : World, wo = wr := ⟨_, rfl⟩
      have HG : Hid (w.heap.size ≤ g) := hrd.out.lo_le
      by_cases hlt : i < n'
      · by_cases hlt2 : i < 12
        · obtain ⟨ad, kd, nn, rfl, hadb, hc0, hc1⟩ := hp.out.below hbel.out (Nat.le_refl _) i hlt
          rw [next_field] at hc1
          have HI := Lib.hid hi12
          clear hi12
          go_upto_region 8 with fail
          go_cut [10] (fun s wx => s = .bool (good && (decide (0 ≤ nn) && decide (nn ≤ (r : Int)))) ∧ wo = wx)
          case first =>
            cases good
            · go_wp2_with fail
              go_meet
              exact ⟨rfl, rfl⟩
            · by_cases h1 : 0 ≤ nn
              · by_cases h2 : nn ≤ (r : Int)
                · go_wp2_with fail
                  go_meet
                  exact ⟨by simp [h1, h2], rfl⟩
                · have h3 : decide (nn ≤ (r : Int)) = false := by simpa using h2
                  go_wp2_with fail
                  go_meet
                  exact ⟨by simp [h1, h2], rfl⟩
              · have h3 : decide (0 ≤ nn) = false := by simpa using h1
                go_wp2_with fail
                go_meet
                exact ⟨by simp; omega, rfl⟩
          case rest =>
            obtain ⟨rfl, rfl⟩ := hcut
            obtain ⟨f0, hf0⟩ : ∃ f0 : Bool, (good && (decide (0 ≤ nn) && decide (nn ≤ (r : Int)))) = f0 := ⟨_, rfl⟩
            rw [hf0]
            have HF0 : Hid ((f0 = true → good = true ∧ 0 ≤ nn ∧ nn ≤ (r : Int)) ∧ (f0 = false → good = false ∨ nn < 0 ∨ (r : Int) < nn)) := by
              subst hf0
              refine ⟨fun h => by simpa using h, fun h => ?_⟩
              cases good
              · exact .inl rfl
              · simp at h
                omega
            clear hf0
            go_upto_block 2 with fail
            go_cut [0, 10, 20] (fun s0 s s20 wx => s0 = .slice A m cap ∧ s20 = .slice A m cap ∧ ∃ f L, s = .bool f ∧ Hid (Rdr wx w.heap.size g (!f) L) ∧ Hid (Below w.heap.size w wx) ∧ Hid ((f = true → ∃ t : Nat, nn = (t : Int) ∧ t ≤ r ∧ L = k0.drop (a + t)) ∧ (f = false → L = [])))
            case first =>
              cases f0 with
              | false =>
                have hg3 : Hid ((!good) = true ∨ nn < 0 ∨ (((if good = true then k0.drop a else [] : List Nat).length : Nat) : Int) < nn) := by
                  rcases HF0.out.2 rfl with rfl | h | h
                  · exact .inl rfl
                  · exact .inr (.inl h)
                  · cases good
                    · exact .inl rfl
                    · refine .inr (.inr ?_)
                      rw [if_pos rfl, HR.out]; exact h
                clear HF0
                by_cases hk0 : kd = 0
                · subst hk0
                  go_wp2_with fail
                  refine (num_gone _ g _ _ nn (hg3.out.imp id (fun h => h.imp (fun h => by omega) (fun h => .inr h))) _ hrd).mono ?_
                  rintro e w2 ⟨rfl, hr2, hg2⟩
                  go_wp2_with fail
                  go_meet
                  exact ⟨rfl, rfl, false, [], rfl, hr2, hbel.out.trans (below_of_grown hg2 HG.out hbel.out.size), (fun h => by cases h), fun _ => rfl⟩
                · have e0 : (kd == 0) = false := by simpa using hk0
                  by_cases hk1 : kd = 1
                  · subst hk1
                    go_wp2_with fail
                    refine (bytes_gone _ g _ _ nn hg3.out _ hrd).mono ?_
                    rintro e w2 ⟨v, rfl, hown, hr2, hg2⟩
                    obtain ⟨A2, c2, rfl⟩ := own_slice hown
                    go_wp2_with fail
                    refine (refeq_any A2 none 0 0 0 0 c2 0 [] [] w2 rfl rfl (by omega) (by omega) (fun k hk => absurd hk (by simp)) (fun k hk => absurd hk (by simp))).mono ?_
                    rintro e w4 ⟨rfl, q4, rfl⟩
                    rw [show decide (([] : List Nat) = []) = true from rfl]
                    go_wp2_with fail
                    go_meet
                    exact ⟨rfl, rfl, false, [], rfl, hr2, below_drew (hbel.out.trans (below_of_grown hg2 HG.out hbel.out.size)) _, (fun h => by cases h), fun _ => rfl⟩
                  · have e1 : (kd == 1) = false := by simpa using hk1
                    go_wp2_with fail
                    go_loop [10, 13] (fun fv kv => fv = .bool false ∧ kv = .int .i64 0) (fun _ _ => 0)
                    case atStart => exact ⟨rfl, rfl⟩
                    case round =>
                      obtain ⟨rfl, rfl⟩ := hrel
                      go_wp2_with fail
                      refine (zeros_gone _ g _ _ nn hg3.out _ hrd).mono ?_
                      rintro e w2 ⟨rfl, hr2, hg2⟩
                      go_wp2_with fail
                      go_meet
                      exact ⟨rfl, rfl, false, [], rfl, hr2, hbel.out.trans (below_of_grown hg2 HG.out hbel.out.size), (fun h => by cases h), fun _ => rfl⟩
              | true =>
                obtain ⟨rfl, hn0, hnr⟩ := HF0.out.1 rfl
                clear HF0
                obtain ⟨t, rfl⟩ : ∃ t : Nat, nn = (t : Int) := ⟨nn.toNat, by omega⟩
                have htr : t ≤ r := by omega
                have HRD : Hid (Rdr wo w.heap.size g false (k0.drop a)) := hrd
                clear hrd hn0 hnr
                have hbk2 := hbk.out.below hbel.out (Nat.le_refl _)
                have HBK : Hid (Bs wo w.heap.size A k0) := hbk2
                clear hbk2
                by_cases hk0 : kd = 0
                · subst hk0
                  by_cases ht : 1 ≤ t ∧ t ≤ 8
                  · obtain ⟨ht1, ht8⟩ := ht
                    have hca : ¬ cap = a := by omega
                    have HS : Hid (Bs wo w.heap.size (A.map (·.add a)) ((k0.drop a).take t)) := ((HBK.out.bsIn.drop a).take t).bs
                    have HL : Hid (((k0.drop a).take t).length = t) := by show _ = _; rw [List.length_take, HR.out]; omega
                    go_wp2_with fail
                    refine (refnum_any _ w.heap.size _ _ _ wo HL ht8 HS).mono ?_
                    rintro e w2 ⟨rfl, rfl⟩
                    go_wp2_with fail
                    refine (num_ok _ g _ _ t rfl ht1 ht8 (by rw [HR.out]; exact htr) _ HRD).mono ?_
                    rintro e w2 ⟨rfl, hr2, hg2⟩
                    go_wp2_with fail
                    go_meet
                    exact ⟨rfl, rfl, true, _, rfl, hr2, hbel.out.trans (below_of_grown hg2 HG.out hbel.out.size), fun _ => ⟨t, rfl, htr, by rw [List.drop_drop]⟩, (fun h => by cases h)⟩
                  · have hd : decide ((1 : Int) ≤ (t : Int)) = false ∨ (1 ≤ t ∧ decide ((t : Int) ≤ 8) = false) := by
                      by_cases h : 1 ≤ t
                      · exact .inr ⟨h, by simp; omega⟩
                      · exact .inl (by simp; omega)
                    have hng : Hid ((t : Int) < 1 ∨ 8 < (t : Int)) := by unfold Hid; omega
                    clear ht
                    rcases hd with hd | ⟨ht1, hd⟩
                    all_goals
                      go_wp2_with fail
                      refine (num_gone _ g _ _ _ (.inr (hng.out.imp id .inl)) _ HRD).mono ?_
                      rintro e w2 ⟨rfl, hr2, hg2⟩
                      go_wp2_with fail
                      go_meet
                      exact ⟨rfl, rfl, false, [], rfl, hr2, hbel.out.trans (below_of_grown hg2 HG.out hbel.out.size), (fun h => by cases h), fun _ => rfl⟩
                · have e0 : (kd == 0) = false := by simpa using hk0
                  have HL : Hid (((k0.drop a).take t).length = t) := by show _ = _; rw [List.length_take, HR.out]; omega
                  by_cases hk1 : kd = 1
                  · subst hk1
                    have HS : Hid (Bs wo w.heap.size (if cap = a then A else A.map (·.add a)) ((k0.drop a).take t)) := ((HBK.out.bsIn.drop' a cap (by rw [hk.out]; exact hmc)).take t).bs
                    have HX : Hid (∀ y ∈ (k0.drop a).take t, y < 256) := fun y hy => HBK.out.lt y (List.mem_of_mem_drop (List.mem_of_mem_take hy))
                    have h40 : t ≤ 40 := by omega
                    by_cases hca : cap = a
                    all_goals
                      have HS2 := HS.out
                      first | rw [if_pos hca] at HS2 | rw [if_neg hca] at HS2
                      go_wp2_with fail
                      refine (bytes_ok _ g _ _ t rfl (by rw [HR.out]; exact htr) (by rw [HR.out]; omega) _ HRD).mono ?_
                      rintro e w2 ⟨v, rfl, hown, hr2, hg2⟩
                      obtain ⟨A2, c2, rfl, hbs2, hl2, _, _, _⟩ := own_bytes hown HX.out
                      have hb2 : Below w.heap.size w w2 := hbel.out.trans (below_of_grown hg2 HG.out hbel.out.size)
                      have HB2 := Lib.hid hb2
                      have HS3 := Lib.hid (HS2.below (below_of_grown hg2 HG.out hbel.out.size) (Nat.le_refl _))
                      have HR2 := Lib.hid hr2
                      have HB := Lib.hid hbs2
                      clear hb2 hr2 hbs2 hl2 hown hg2 HS2
                      go_wp2_with fail
                      refine (refeq_any A2 _ w2.heap.size w.heap.size _ _ c2 _ _ _ w2 HL HL (by omega) (by omega) HB HS3).mono ?_
                      rintro e w4 ⟨rfl, q4, rfl⟩
                      rw [show ∀ x : List Nat, decide (x = x) = true from fun x => decide_eq_true rfl]
                      go_wp2_with fail
                      go_meet
                      exact ⟨by first | rfl | rw [hca], by first | rfl | rw [hca], true, _, rfl, HR2.out, below_drew HB2.out _, fun _ => ⟨t, rfl, htr, by rw [List.drop_drop]⟩, (fun h => by cases h)⟩
                  · have e1 : (kd == 1) = false := by simpa using hk1
                    go_wp2_with fail
                    go_loop [10, 13] (fun fv kv => ∃ k : Nat, ∃ f : Bool, k ≤ t ∧ kv = .int .i64 k ∧ fv = .bool f ∧ Hid (((k0.drop a).take k).all (· == 0) = f)) (fun _ kv => t - (intOf kv).toNat)
                    case atStart => exact ⟨0, true, by omega, rfl, rfl, rfl⟩
                    case round =>
                      obtain ⟨k, f, hkt, rfl, rfl, hall⟩ := hrel
                      by_cases hlt3 : k < t
                      · cases f with
                        | true =>
                          obtain ⟨hx, ad2, rfl, _, hc⟩ := HBK.out (a + k) (by have := HAR.out; rw [hk.out]; omega)
                          have hgd : (k0.drop a).getD k 0 = k0.getD (a + k) 0 := getD_drop k0 a k
                          generalize hX : k0.getD (a + k) 0 = x at hx hc hgd
                          have HN := Lib.hid (all_next (k0.drop a) k x (by rw [HR.out]; omega) hgd)
                          clear hgd hX
                          by_cases h0 : x = 0
                          · subst h0
                            go_wp2_with fail
                            go_round
                            case rel => exact ⟨k + 1, true, by omega, by go_num, rfl, by show _ = _; rw [HN.out, hall.out]; rfl⟩
                            case measure => simp [intOf]; omega
                          · have h1 : ((x : Int) != 0) = true := by rw [bne_iff_ne]; omega
                            have h2 : (x == 0) = false := by simpa using h0
                            have HN2 : Hid (((k0.drop a).take (k + 1)).all (· == 0) = false) := by
                              show _ = _
                              rw [HN.out, h2, Bool.and_false]
                            clear h2 HN
                            go_wp2_with fail
                            go_round
                            case rel => exact ⟨k + 1, false, by omega, by go_num, rfl, HN2⟩
                            case measure => simp [intOf]; omega
                        | false =>
                          have HZ : Hid (((k0.drop a).take t).all (· == 0) = false) := all_less _ k t hkt hall.out
                          go_wp2_with fail
                          refine (zeros_ok _ g _ _ t rfl (by rw [HR.out]; exact htr) _ HRD).mono ?_
                          rintro e w2 ⟨rfl, hr2, hg2⟩
                          rw [HZ.out] at hr2
                          go_wp2_with fail
                          go_meet
                          exact ⟨rfl, rfl, false, [], rfl, hr2, hbel.out.trans (below_of_grown hg2 HG.out hbel.out.size), (fun h => by cases h), fun _ => rfl⟩
                      · obtain rfl : k = t := by omega
                        have HZ : Hid (((k0.drop a).take k).all (· == 0) = f) := hall
                        cases f with
                        | true =>
                          go_wp2_with fail
                          refine (zeros_ok _ g _ _ k rfl (by rw [HR.out]; exact htr) _ HRD).mono ?_
                          rintro e w2 ⟨rfl, hr2, hg2⟩
                          rw [HZ.out] at hr2
                          go_wp2_with fail
                          go_meet
                          exact ⟨rfl, rfl, true, _, rfl, hr2, hbel.out.trans (below_of_grown hg2 HG.out hbel.out.size), fun _ => ⟨k, rfl, htr, by rw [if_pos trivial, List.drop_drop]⟩, (fun h => by cases h)⟩
                        | false =>
                          go_wp2_with fail
                          refine (zeros_ok _ g _ _ k rfl (by rw [HR.out]; exact htr) _ HRD).mono ?_
                          rintro e w2 ⟨rfl, hr2, hg2⟩
                          rw [HZ.out] at hr2
                          go_wp2_with fail
                          go_meet
                          exact ⟨rfl, rfl, false, [], rfl, hr2, hbel.out.trans (below_of_grown hg2 HG.out hbel.out.size), (fun h => by cases h), fun _ => rfl⟩
            case rest =>
              obtain ⟨rfl, rfl, f, L, rfl, hrn, hbn, HF⟩ := hcut
              cases f with
              | true =>
                obtain ⟨t, rfl, htr, hL⟩ := HF.out.1 rfl
                subst hL
                obtain ⟨q, hq⟩ : ∃ q, (k0.drop (a + t)).length = q := ⟨_, rfl⟩
                have hq2 : a + t + q = m := by
                  rw [← hq, List.length_drop, hk.out]
                  have := HAR.out
                  omega
                have HQ := Lib.hid hq
                have HQ2 := Lib.hid hq2
                have hat : a + t ≤ m := by omega
                have hsub2 : (m : Int) - ((a : Int) + (t : Int)) = (q : Int) := by omega
                clear hq hq2 HF
                go_wp2_with fail
                refine (ok_any _ g _ _ _ hrn).mono ?_
                rintro e w3 ⟨rfl, rfl⟩
                go_wp2_with fail
                refine (rest_any _ g _ _ _ hrn).mono ?_
                rintro e w3 ⟨rfl, rfl⟩
                rw [HQ.out]
                go_wp2
                go_roundg (gk - 1)
                case rel =>
                  have := HI.out
                  exact ⟨i + 1, a + t, true, by omega, by omega, by show _ = _; rw [HQ.out, hk.out]; exact HQ2.out, by go_num, by go_num, rfl, hrn, hbn⟩
                case measure => have := HI.out; omega
              | false =>
                obtain rfl := HF.out.2 rfl
                clear HF
                go_wp2_with fail
                refine (ok_any _ g _ _ _ hrn).mono ?_
                rintro e w3 ⟨rfl, rfl⟩
                go_wp2_with fail
                refine (rest_any _ g _ _ _ hrn).mono ?_
                rintro e w3 ⟨rfl, rfl⟩
                go_wp2
                go_roundg (gk - 1)
                case rel =>
                  have := HI.out
                  exact ⟨i + 1, a, false, by omega, by omega, by show _ = _; rw [HR.out, hk.out]; exact HAR.out, by go_num, rfl, rfl, hrn, hbn⟩
                case measure => have := HI.out; omega
        · have hd12 : decide ((i : Int) < 12) = false := by simp; omega
          go_wp2_with fail
          refine (awake_any wo).mono ?_
          rintro e w2 ⟨rfl, hb2⟩
          go_wp2
          go_ret
          exact ⟨rfl, hbel.out.trans (hb2.mono hbel.out.size)⟩
      · go_wp2_with fail
        refine (awake_any wo).mono ?_
        rintro e w2 ⟨rfl, hb2⟩
        go_wp2
        go_ret
        exact ⟨rfl, hbel.out.trans (hb2.mono hbel.out.size)⟩
end Go.Proofs.Ytgeajacbfhbakaa
