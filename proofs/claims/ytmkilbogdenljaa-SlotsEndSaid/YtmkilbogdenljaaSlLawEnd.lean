/-
  The walk of the law SlotsEnd.
-/
import Derived.Test.YtmkilbogdenljaaSlAwake
import Derived.Test.YtmkilbogdenljaaSlCut
import Derived.Test.YtmkilbogdenljaaGmRefOver
set_option maxRecDepth 100000
namespace Go.Proofs.Ytmkilbogdenljaa
open Go.RowKit
theorem reg_mins {w : World} {B m : Nat} {A : Option Addr} {l : List Gm.R} {n k : Nat} (hl : l.length = n) (h : MinIs n k m) (hb : Arr regS w 0 B A l) : (l.take m).length = m ∧ Arr regS w 0 B A (l.take m) := ⟨by rw [List.length_take]; have := min_le h; omega, hb.take m⟩
set_option maxHeartbeats 4000000 in
theorem slotsend_any (a b c d next : Int) (A : Option Addr) (n cap : Nat) (lv : List Gm.R) (w : World) (hs : SlIs A n cap) (hl : Hid (lv.length = n)) (hb : Hid (Arr regS w 0 w.heap.size A lv)) :
    Calls Try.prog 7 #[.agg #[.int .i64 a, .int .i64 b, .int .i64 c, .int .i64 d], .slice A n cap, .int .i64 next] w fun e w' => e = .returned (.bool true) ∧ Below w.heap.size w w' := by
  obtain ⟨m, hm⟩ := min_is n 10
  obtain ⟨a1, a2⟩ := reg_mins hl.out hm hb.out
  have q := min_sl hs hm
  have hm10 : m ≤ 10 := by unfold MinIs at hm; omega
  have hmc : m ≤ cap := q.2.1
  have hnc := hs.2.1
  have HL := Lib.hid a1
  have HA := Lib.hid a2
  have CA := Lib.hid (fun W => slawake_any W)
  have HS0 := Lib.hid (sd_new w #[.int .i64 a, .int .i64 b, .int .i64 c, .int .i64 d] 23)
  clear a1 a2 q hs hb hl
  generalize lv.take m = live at *
  obtain ⟨T, hT⟩ : ∃ T, Sl.tail live next = T := ⟨_, rfl⟩
  have CT : Hid (∀ W, Below w.heap.size w W → Calls Try.prog 12 #[.slice A m cap, .int .i64 next] W fun e w' => e = .returned (.int .i64 T) ∧ Below W.heap.size W w') := fun W hW => by
    have h := sltail_any A 0 w.heap.size m cap live next W hW.size hmc HL (by omega) (Lib.hid (HA.out.below hW (Nat.le_refl _)))
    rwa [hT] at h
  have HTL : Hid (∀ k, k < m → T ≤ (live.getD k Gm.R0).seq) := fun k hk => by
    rw [← hT]
    refine Sl.tail_le next ?_
    rw [List.getD_eq_getElem?_getD, List.getElem?_eq_getElem (by rw [HL.out]; exact hk)]
    exact List.getElem_mem _
  obtain ⟨x, hx⟩ : ∃ x, Sl.choose ⟨a, b, c, d⟩ live = x := ⟨_, rfl⟩
  obtain ⟨t, ht⟩ : ∃ t, decide (Gm.free ⟨a, b, c, d⟩ live ≠ []) = t := ⟨_, rfl⟩
  have CC : Hid (∀ W, Below w.heap.size w W → Calls Try.prog 16 #[.agg #[.int .i64 a, .int .i64 b, .int .i64 c, .int .i64 d], .slice A m cap] W fun e w' => e = .returned (.tuple #[.int .i64 x, .bool t]) ∧ Below W.heap.size W w') := fun W hW => by
    have h := slchoose_any a b c d A 0 w.heap.size m cap live W hW.size HL (by omega) (Lib.hid (HA.out.below hW (Nat.le_refl _)))
    rwa [hx, ht] at h
  have HOV : Hid (t = true → ∀ k, k < m → decide (Gm.over ⟨a, b, c, d⟩ x (live.getD k Gm.R0).l (live.getD k Gm.R0).slot) = false) := fun e k hk => by
    rw [e] at ht
    rw [← hx]
    refine decide_eq_false ((Sl.choose_ok (of_decide_eq_true ht)).2.2 _ ?_)
    rw [List.getD_eq_getElem?_getD, List.getElem?_eq_getElem (by rw [HL.out]; exact hk)]
    exact List.getElem_mem _
  have CO : Hid (∀ W, Below w.heap.size w W → Calls Try.prog 10 #[.slice A m cap] W (OrdIs W (Sl.order live))) := fun W hW => slorder_any A 0 w.heap.size m cap live W HL (by omega) (Lib.hid (HA.out.below hW (Nat.le_refl _)))
  have HLO : Hid ((Sl.order live).length = m) := (Sl.order_length _).trans HL.out
  have HTN : Hid (2 ≤ m → T ≤ Sl.tail ((Sl.order live).drop 1) next) := fun h2 => by
    rw [← hT]
    refine Sl.tail_less next (fun e => ?_) fun r hr => Sl.mem_order.1 (List.mem_of_mem_drop hr)
    have := congrArg List.length e
    rw [List.length_drop, HLO.out, List.length_nil] at this
    omega
  generalize Sl.order live = L at *
  clear hT hx ht
  go_enter Try.func7, Try.ntmps7
  go_upto_region 1 with fail
  generalize w.alloc (.cells #[.int .i64 a, .int .i64 b, .int .i64 c, .int .i64 d] 23) = w0 at *
  go_cut [1] (fun s wx => s = .slice A m cap ∧ w0 = wx)
  case first =>
    have hmi : min (n : Int) 10 = (m : Int) := by unfold MinIs at hm; omega
    unfold MinIs at hm
    rcases hm with ⟨i0, rfl⟩ | ⟨i0, rfl⟩
    all_goals
      go_wp2_with fail
      go_meet
      exact ⟨rfl, rfl⟩
  case rest =>
    obtain ⟨rfl, rfl⟩ := hcut
    clear hm hnc
    go_wp2_with fail
    refine (CT.out _ HS0.out.2).mono ?_
    rintro e w1 ⟨rfl, hb1⟩
    have HS1 := Lib.hid (HS0.out.next hb1 (by rfl) (by rfl) (by rfl) (by rfl))
    clear hb1 HS0 CT
    go_wp2_with fail
    go_loopw [25] (fun iv wr => ∃ k : Nat, k ≤ m ∧ iv = .int .i64 (k : Int) ∧ Hid (Sd w w.heap.size (.cells #[.int .i64 a, .int .i64 b, .int .i64 c, .int .i64 d] 23 (0, 0)) wr)) (fun i _ => m - (intOf i).toNat)
    case atStart => exact ⟨0, Nat.zero_le _, rfl, HS1⟩
    case round =>
      clear HS1
      obtain ⟨k, hk, rfl, HS⟩ := hrel
      generalize wr = wo at *
      by_cases hlt : k < m
      · obtain ⟨ad, rfl⟩ := HA.out.some (k := k) (by rw [HL.out]; exact hlt)
        obtain ⟨r, hr⟩ : ∃ r, live.getD k Gm.R0 = r := ⟨_, rfl⟩
        obtain ⟨m0, m1, m2, m3, m4, m5, m6, m7, m8, m9⟩ := regs_at (HA.out.below HS.out.2 (Nat.le_refl _)) k (by rw [HL.out]; exact hlt) r hr
        have htl : decide (r.seq < T) = false := decide_eq_false (by have := HTL.out k hlt; rw [hr] at this; omega)
        have HSN := Lib.hid (HS.out.next ((Below.refl _ wo).alloc (Nat.le_refl _) (.cells #[.int .i64 r.ver, .int .i64 r.slot, .int .i64 r.lay, .int .i64 r.seq, .int .i64 r.tail, .int .i64 r.now, .int .i64 r.l.id, .int .i64 r.l.ver, .int .i64 r.l.rs, .int .i64 r.l.reg] 40)) rfl rfl rfl rfl)
        clear hr
        go_wp2_with fail
        go_roundw
        case rel => exact ⟨k + 1, by omega, by go_num, HSN.out⟩
        case measure => simp [intOf]; omega
      · obtain rfl : m = k := by omega
        obtain ⟨z0, z1, z2, z3⟩ := four_cells HS.out.1
        go_wp2_with fail
        refine (CC.out _ HS.out.2).mono ?_
        rintro e w2 ⟨rfl, hb2⟩
        have HS2 := Lib.hid (HS.out.next hb2 (by rfl) (by rfl) (by rfl) (by rfl))
        clear hb2 HS z0 z1 z2 z3 HTL
        go_wp2_with fail
        go_loopw [43] (fun iv wr => ∃ k : Nat, k ≤ m ∧ iv = .int .i64 (k : Int) ∧ Hid (Sd w w.heap.size (.cells #[.int .i64 a, .int .i64 b, .int .i64 c, .int .i64 d] 23 (0, 0)) wr)) (fun i _ => m - (intOf i).toNat)
        case atStart => exact ⟨0, Nat.zero_le _, rfl, HS2⟩
        case round =>
          clear HS2
          obtain ⟨k, hk, rfl, HS⟩ := hrel
          generalize wr = wo at *
          by_cases hlt : k < m
          · obtain ⟨ad, rfl⟩ := HA.out.some (k := k) (by rw [HL.out]; exact hlt)
            obtain ⟨r, hr⟩ : ∃ r, live.getD k Gm.R0 = r := ⟨_, rfl⟩
            obtain ⟨m0, m1, m2, m3, m4, m5, m6, m7, m8, m9⟩ := regs_at (HA.out.below HS.out.2 (Nat.le_refl _)) k (by rw [HL.out]; exact hlt) r hr
            have HSN := Lib.hid (HS.out.next ((Below.refl _ wo).alloc (Nat.le_refl _) (.cells #[.int .i64 r.ver, .int .i64 r.slot, .int .i64 r.lay, .int .i64 r.seq, .int .i64 r.tail, .int .i64 r.now, .int .i64 r.l.id, .int .i64 r.l.ver, .int .i64 r.l.rs, .int .i64 r.l.reg] 40)) rfl rfl rfl rfl)
            cases t with
            | false =>
              clear hr
              go_wp2_with fail
              go_roundw
              case rel => exact ⟨k + 1, by omega, by go_num, HSN.out⟩
              case measure => simp [intOf]; omega
            | true =>
              have hov := HOV.out rfl k hlt
              rw [hr] at hov
              have COV : Hid (∀ W, Calls Try.prog 23 #[.agg #[.int .i64 a, .int .i64 b, .int .i64 c, .int .i64 d], .int .i64 x, .agg #[.int .i64 r.l.id, .int .i64 r.l.ver, .int .i64 r.l.rs, .int .i64 r.l.reg], .int .i64 r.slot] W fun r w' => r = .returned (.bool false) ∧ Below W.heap.size W w') := fun W => by
                have h := refgmover_any a b c d x r.l.id r.l.ver r.l.rs r.l.reg r.slot W
                rwa [show decide (Gm.over ⟨a, b, c, d⟩ x ⟨r.l.id, r.l.ver, r.l.rs, r.l.reg⟩ r.slot) = false from hov] at h
              have HBX := Lib.hid (heap_alloc_new wo (.cells #[.int .i64 r.ver, .int .i64 r.slot, .int .i64 r.lay, .int .i64 r.seq, .int .i64 r.tail, .int .i64 r.now, .int .i64 r.l.id, .int .i64 r.l.ver, .int .i64 r.l.rs, .int .i64 r.l.reg] 40))
              clear hr hov
              go_upto_region 13 with fail
              clear m0 m1 m2 m3 m4 m5 m6 m7 m8 m9
              generalize wo.alloc (.cells #[.int .i64 r.ver, .int .i64 r.slot, .int .i64 r.lay, .int .i64 r.seq, .int .i64 r.tail, .int .i64 r.now, .int .i64 r.l.id, .int .i64 r.l.ver, .int .i64 r.l.rs, .int .i64 r.l.reg] 40) = wa at *
              obtain ⟨z0, z1, z2, z3⟩ := four_cells HSN.out.1
              obtain ⟨m0, m1, m2, m3, m4, m5, m6, m7, m8, m9⟩ := ten_cells HBX.out
              go_wp2_with fail
              refine (COV.out _).mono ?_
              rintro e w3 ⟨rfl, hb3⟩
              have HS3 := Lib.hid (HSN.out.next hb3 (by rfl) (by rfl) (by rfl) (by rfl))
              clear hb3 z0 z1 z2 z3 m0 m1 m2 m3 m4 m5 m6 m7 m8 m9
              go_wp2_with fail
              go_roundw
              case rel => exact ⟨k + 1, by omega, by go_num, HS3.out⟩
              case measure => simp [intOf]; omega
          · obtain rfl : m = k := by omega
            have HB0 : Hid (Below w.heap.size w wo) := HS.out.2
            clear HS HOV
            go_wp2_with fail
            refine (CO.out _ HB0.out).mono ?_
            rintro e w3 ⟨v, rfl, hr3, hb3⟩
            rw [HLO.out] at hr3
            have HB3 : Hid (Below w.heap.size w w3) := HB0.out.trans (hb3.mono HB0.out.size)
            by_cases h2 : 2 ≤ m
            · obtain ⟨g, c1, rfl, hc1, ha3⟩ := hr3.box (by omega)
              have HA3 := Lib.hid ha3
              have hd2 : decide ((m : Int) < 2) = false := decide_eq_false (by omega)
              have hck : ¬ c1 = 1 := by omega
              have htn : decide (T ≤ Sl.tail (L.drop 1) next) = true := decide_eq_true (HTN.out h2)
              have HDL : Hid ((L.drop 1).length = m - 1) := by show _ = _; rw [List.length_drop, HLO.out]
              have CT2 : Hid (∀ W, Below w3.heap.size w3 W → Calls Try.prog 12 #[.slice (some ⟨g, 10, none⟩) (m - 1) (c1 - 1), .int .i64 next] W fun e w' => e = .returned (.int .i64 (Sl.tail (L.drop 1) next)) ∧ Below W.heap.size W w') := fun W hW => by
                have ha := regs_drop (HA3.out.below hW (Nat.le_refl _)) 1
                exact sltail_any (some ⟨g, 10, none⟩) wo.heap.size w3.heap.size (m - 1) (c1 - 1) (L.drop 1) next W hW.size (by omega) HDL (by omega) (Lib.hid ha)
              generalize Sl.tail (L.drop 1) next = T2 at *
              clear hr3 hb3 ha3 HTN
              go_wp2_with fail
              refine (CA.out _).mono ?_
              rintro e w4 ⟨rfl, hb4⟩
              have HB4 : Hid (Below w.heap.size w w4) := HB3.out.trans (hb4.mono HB3.out.size)
              have HX4 := Lib.hid hb4
              clear hb4
              go_wp2_with fail
              refine (CT2.out _ HX4.out).mono ?_
              rintro e w5 ⟨rfl, hb5⟩
              have HB5 : Hid (Below w.heap.size w w5) := HB4.out.trans (hb5.mono HB4.out.size)
              clear hb5
              go_wp2_with fail
              go_ret
              exact ⟨rfl, HB5.out⟩
            · obtain ⟨A1, c1, rfl, -⟩ := hr3.open_
              have hd2 : decide ((m : Int) < 2) = true := decide_eq_true (by omega)
              clear hr3 hb3 HTN
              go_wp2_with fail
              refine (CA.out _).mono ?_
              rintro e w4 ⟨rfl, hb4⟩
              have HB4 : Hid (Below w.heap.size w w4) := HB3.out.trans (hb4.mono HB3.out.size)
              clear hb4
              go_wp2_with fail
              go_ret
              exact ⟨rfl, HB4.out⟩
end Go.Proofs.Ytmkilbogdenljaa
