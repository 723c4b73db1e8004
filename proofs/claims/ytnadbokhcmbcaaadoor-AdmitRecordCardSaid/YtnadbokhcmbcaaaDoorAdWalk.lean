/-
  The walks of admit: expiry, Check, Admit, and the reference's Check.
-/
import Derived.Test.YtnadbokhcmbcaaaDoorAdMath
import Derived.Test.YtnadbokhcmbcaaaDoorGmWalk
import Derived.Test.YtnadbokhcmbcaaaDoorRecWords
set_option maxRecDepth 100000
namespace Go.Proofs.YtnadbokhcmbcaaaDoor
open Go.RowKit
theorem adexp_any (now ttl : Int) (h1 : 0 ≤ now) (h2 : now ≤ 549755813888) (h3 : 0 ≤ ttl) (w : World) :
    Calls Tryd.prog 12 #[.int .i64 now, .int .i64 ttl] w fun e w' => e = .returned (.int .i64 (Ad.sum now ttl)) ∧ w' = w := by
  by_cases h : ttl = 0
  · subst h
    go_enter Tryd.func12, Tryd.ntmps12
    go_wp2
    go_ret
    exact ⟨rfl, rfl⟩
  · have h0 : (ttl == 0) = false := by simp; omega
    have HS : Hid (Ad.sum now ttl = now + min ttl 1099511627776) := if_neg h
    rw [HS.out]
    have HW : Hid (wrap64 (now + min ttl 1099511627776) = now + min ttl 1099511627776) := by show _ = _; unfold wrap64; omega
    go_enter Tryd.func12, Tryd.ntmps12
    go_wp2
    all_goals
      go_ret
      exact ⟨gm_int (by omega), rfl⟩
theorem admit_any (ev pr : Bool) (k : Int) (w : World) :
    Calls Tryd.prog 10 #[.bool ev, .bool pr, .int .i64 k] w fun e w' => e = .returned (.bool (!ev || pr || decide (2 ≤ k))) ∧ w' = w := by
  cases ev <;> cases pr
  all_goals
    go_enter Tryd.func10, Tryd.ntmps10
    go_wp2
    go_ret
    exact ⟨rfl, rfl⟩
theorem ad_tup {a b c d : Int} (h : a = c) (k : b = d) : Ending.returned (.tuple #[.int .i64 a, .int .i64 b]) = Ending.returned (.tuple #[.int .i64 c, .int .i64 d]) := by rw [h, k]
theorem sl_rec {A A' : Option Addr} {n c n' c' : Nat} {x : Int} {w W : World} {t : TypeId} (h : Sd w w.heap.size (.cells #[.int .i64 1, .slice A n c, .slice A' n' c', .int .i64 x] t (0, 0)) W) :
    W.cell? ⟨w.heap.size, 0, none⟩ = some (.int .i64 1) ∧ W.cell? ⟨w.heap.size, 1, none⟩ = some (.slice A n c) ∧ W.cell? ⟨w.heap.size, 2, none⟩ = some (.slice A' n' c') ∧ W.cell? ⟨w.heap.size, 3, none⟩ = some (.int .i64 x) := four_cells h.1
set_option maxHeartbeats 1000000 in
theorem adcheck_any (a b c d now ttl : Int) (A : Option Addr) (n p : Nat) (A' : Option Addr) (n' p' : Nat) (w : World) (hs : n ≤ 140737488355328) (hs' : n' ≤ 140737488355328) :
    Calls Tryd.prog 6 #[.agg #[.int .i64 a, .int .i64 b, .int .i64 c, .int .i64 d], .int .i64 now, .slice A n p, .slice A' n' p', .int .i64 ttl] w fun r w' =>
      r = .returned (.tuple #[.int .i64 (Ad.due ⟨a, b, c, d⟩ now ttl n n'), .int .i64 (Ad.err ⟨a, b, c, d⟩ now ttl n n')]) ∧ Below w.heap.size w w' := by
  have CC := Lib.hid (fun W => gmcap_any a b c d W)
  have HS0 := Lib.hid (sd_new w #[.int .i64 a, .int .i64 b, .int .i64 c, .int .i64 d] 23)
  have hcs := Ad.cap_small ⟨a, b, c, d⟩
  rcases Ad.ways ⟨a, b, c, d⟩ now ttl n n' with ⟨hf, e1, e2⟩ | ⟨hf, hr, e1, e2⟩ | ⟨hf, h1, h2, h3, hc, e1, e2⟩ | ⟨hf, h1, h2, h3, hc, hl, e1, e2⟩ | ⟨hf, h1, h2, h3, hc, hl, e1, e2⟩
  · rw [e1, e2]
    rw [Ad.cap_form.2 hf] at CC
    clear e1 e2 hcs hf
    go_enter Tryd.func6, Tryd.ntmps6
    go_upto_region 1 with fail
    generalize w.alloc (.cells #[.int .i64 a, .int .i64 b, .int .i64 c, .int .i64 d] 23) = w0 at *
    obtain ⟨z0, z1, z2, z3⟩ := sd_cells4 HS0.out
    go_wp2_with fail
    refine (CC.out _).mono ?_
    rintro r w1 ⟨rfl, hb1⟩
    have HS1 := Lib.hid (HS0.out.next hb1 (by rfl) (by rfl) (by rfl) (by rfl))
    clear hb1
    go_wp2_with fail
    go_ret2
    exact ⟨rfl, HS1.out.2⟩
  · rw [e1, e2]
    have hz : (Gm.cap ⟨a, b, c, d⟩ == 0) = false := by rw [beq_eq_false_iff_ne]; exact fun e => Ad.cap_form.1 e hf
    generalize Gm.cap ⟨a, b, c, d⟩ = C at *
    clear e1 e2 hcs hf
    rcases (show decide (now < 0) = true ∨ (decide (now < 0) = false ∧ decide (549755813888 < now) = true) ∨ (decide (now < 0) = false ∧ decide (549755813888 < now) = false ∧ decide (ttl < 0) = true) by simp only [decide_eq_true_eq, decide_eq_false_iff_not]; omega) with hq | ⟨hq, hq2⟩ | ⟨hq, hq2, hq3⟩
    all_goals
      clear hr
      go_enter Tryd.func6, Tryd.ntmps6
      go_upto_region 1 with fail
      generalize w.alloc (.cells #[.int .i64 a, .int .i64 b, .int .i64 c, .int .i64 d] 23) = w0 at *
      obtain ⟨z0, z1, z2, z3⟩ := sd_cells4 HS0.out
      go_wp2_with fail
      refine (CC.out _).mono ?_
      rintro r w1 ⟨rfl, hb1⟩
      have HS1 := Lib.hid (HS0.out.next hb1 (by rfl) (by rfl) (by rfl) (by rfl))
      clear hb1
      go_wp2_with fail
      go_ret2
      exact ⟨rfl, HS1.out.2⟩
  all_goals
    rw [e1, e2]
    have hz : (Gm.cap ⟨a, b, c, d⟩ == 0) = false := by rw [beq_eq_false_iff_ne]; exact fun e => Ad.cap_form.1 e hf
    have hq : decide (now < 0) = false := by simp; omega
    have hq2 : decide (549755813888 < now) = false := by simp; omega
    have hq3 : decide (ttl < 0) = false := by simp; omega
    have CE := Lib.hid (fun W => adexp_any now ttl h1 h2 h3 W)
    have CR := Lib.hid (fun W => check_any b 1 A n p A' n' p' (Ad.sum now ttl) W)
    have CL := Lib.hid (fun W => length_any 1 A n p A' n' p' (Ad.sum now ttl) W hs hs')
    simp only at hc
    have hcb : (Rc.chk b 1 n n' (Ad.sum now ttl) != 0) = decide (Rc.chk b 1 n n' (Ad.sum now ttl) ≠ 0) := by
      rw [Bool.eq_iff_iff, bne_iff_ne, decide_eq_true_iff]
    clear e1 e2 hf h1 h2 h3
    generalize Ad.sum now ttl = x at *
    generalize Gm.cap ⟨a, b, c, d⟩ = C at *
    generalize Rc.chk b 1 n n' x = y at *
    first
      | rw [decide_eq_true hc] at hcb
      | (subst hc
         clear hcb)
    try have hlt : decide (C < ((16 + n + n' : Nat) : Int)) = true := decide_eq_true hl
    try have hlt : decide (C < ((16 + n + n' : Nat) : Int)) = false := decide_eq_false hl
    try clear hl
    clear hcs hs hs'
    generalize ((16 + n + n' : Nat) : Int) = len at *
    go_enter Tryd.func6, Tryd.ntmps6
    go_upto_region 1 with fail
    generalize w.alloc (.cells #[.int .i64 a, .int .i64 b, .int .i64 c, .int .i64 d] 23) = w0 at *
    obtain ⟨z0, z1, z2, z3⟩ := sd_cells4 HS0.out
    go_wp2_with fail
    refine (CC.out _).mono ?_
    rintro r w1 ⟨rfl, hb1⟩
    have HS1 := Lib.hid (HS0.out.next hb1 (by rfl) (by rfl) (by rfl) (by rfl))
    clear hb1
    go_wp2_with fail
    refine (CE.out _).mono ?_
    rintro r w1' ⟨rfl, rfl⟩
    go_upto_region 7 with fail
    have HR2 := Lib.hid (sd_new w1' #[.int .i64 1, .slice A n p, .slice A' n' p', .int .i64 x] 38)
    have HS2 := Lib.hid (HS1.out.next HR2.out.2 rfl rfl rfl rfl)
    generalize hbr : w1'.heap.size = br at *
    generalize w1'.alloc (.cells #[.int .i64 1, .slice A n p, .slice A' n' p', .int .i64 x] 38) = w2 at *
    clear z0 z1 z2 z3 HS1 HS0
    obtain ⟨z0, z1, z2, z3⟩ := sd_cells4 HS2.out
    obtain ⟨y0, y1, y2, y3⟩ := four_cells HR2.out.1
    have HR := Lib.hid HR2.out.1
    clear HR2
    go_wp2_with fail
    refine (CR.out _).mono ?_
    rintro r w3 ⟨rfl, hb3⟩
    have HS3 := Lib.hid (HS2.out.next hb3 (by rfl) (by rfl) (by rfl) (by rfl))
    have HR3 := Lib.hid ((hb3.block _ (Array.getElem?_eq_some_iff.1 HR.out).1).trans HR.out)
    clear hb3 HS2 HR z0 z1 z2 z3 y0 y1 y2 y3
    obtain ⟨z0, z1, z2, z3⟩ := sd_cells4 HS3.out
    obtain ⟨y0, y1, y2, y3⟩ := four_cells HR3.out
    go_wp2_with fail
    first
      | (refine (CL.out _).mono ?_
         rintro r w4 ⟨rfl, hb4⟩
         have HS4 := Lib.hid (HS3.out.next hb4 (by rfl) (by rfl) (by rfl) (by rfl))
         have HR4 := Lib.hid ((hb4.block _ (Array.getElem?_eq_some_iff.1 HR3.out).1).trans HR3.out)
         clear hb4 HS3 HR3 z0 z1 z2 z3 y0 y1 y2 y3
         obtain ⟨y0, y1, y2, y3⟩ := four_cells HR4.out
         go_wp2_with fail
         go_ret2
         exact ⟨rfl, HS4.out.2⟩)
      | (go_ret2
         exact ⟨rfl, HS3.out.2⟩)
end Go.Proofs.YtnadbokhcmbcaaaDoor
