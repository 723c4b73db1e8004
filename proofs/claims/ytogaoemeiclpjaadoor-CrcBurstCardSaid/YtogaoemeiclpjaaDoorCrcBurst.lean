/-
  The walk of the statement on bursts: four neighbouring bytes changed, a copy of the message in new memory.
-/
import Derived.Test.YtogaoemeiclpjaaDoorCrcLaws
import Derived.OwnWalk
import Derived.ChangeKeysEq
import Derived.RegionTactic
import Derived.BigRegion
import Derived.StillTailTactics
namespace Go.Proofs.YtogaoemeiclpjaaDoor
open Go.RowKit Go.WideMaps

/-- The place that the statement reckons: a rest that may be negative, moved up, and its rest again. -/
theorem place_of (at0 : Int) (m : Nat) (h : 4 ≤ m) : ∃ (t : Int) (p : Nat), at0.tmod ((m : Int) - 3) = t ∧ 3 - (m : Int) < t ∧ t < (m : Int) - 3 ∧ (t + (m : Int) - 3) % ((m : Int) - 3) = (p : Int) ∧ p + 4 ≤ m := by
  have h1 : (0 : Int) < (m : Int) - 3 := by omega
  have h2 : at0.tmod ((m : Int) - 3) < (m : Int) - 3 := Int.tmod_lt_of_pos _ h1
  have h3 : -((m : Int) - 3) < at0.tmod ((m : Int) - 3) := by
    have := Int.lt_tmod_of_pos at0 h1
    omega
  generalize at0.tmod ((m : Int) - 3) = t at h2 h3
  have h4 := Int.emod_nonneg (t + (m : Int) - 3) (b := (m : Int) - 3) (by omega)
  have h5 := Int.emod_lt_of_pos (t + (m : Int) - 3) h1
  refine ⟨t, ((t + (m : Int) - 3) % ((m : Int) - 3)).toNat, rfl, by omega, by omega, by omega, ?_⟩
  omega

theorem eqi {P : Program} (w : World) {e : TypeId} {k : IntKind} (he : P.underlying e = some (.int k)) (d : Nat) (a b : Int) : (Op.equalIn (d + 1) e (.int k a) (.int k b)).run P w = .ok (a == b) w := by
  simp [Op.equalIn, run_underlying he]
theorem parti {P : Program} (w : World) {e : TypeId} {k : IntKind} (he : P.underlying e = some (.int k)) (cs : Array Value) (j : Nat) (v : Value) (hv : cs[j]? = some v) : (part e cs j).run P w = .ok v w := by
  simp [part, isAgg, run_underlying he, hv]
theorem eq4 {P : Program} (w : World) {t e : TypeId} {i : TypeInfo} (hu : P.underlying t = some (.array 4 e)) (he : P.underlying e = some (.int .u8)) (hi : P.info? e = some i) (hc : P.cellsOf e = 1) (a b c d : Int) :
    (Op.equalIn 10000 t (.agg #[.int .u8 a, .int .u8 b, .int .u8 c, .int .u8 d]) (.agg #[.int .u8 0, .int .u8 0, .int .u8 0, .int .u8 0])).run P w = .ok (a == 0 && (b == 0 && (c == 0 && d == 0))) w := by
  rw [run_equalIn_array w 9999 _ _ hu hi, hc]
  have q : ∀ y0 y1 y2 y3 : Value, (part e #[y0, y1, y2, y3] (0 * 1)).run P w = .ok y0 w ∧ (part e #[y0, y1, y2, y3] (1 * 1)).run P w = .ok y1 w ∧ (part e #[y0, y1, y2, y3] (2 * 1)).run P w = .ok y2 w ∧ (part e #[y0, y1, y2, y3] (3 * 1)).run P w = .ok y3 w :=
    fun _ _ _ _ => ⟨parti w he _ _ _ rfl, parti w he _ _ _ rfl, parti w he _ _ _ rfl, parti w he _ _ _ rfl⟩
  simp only [List.range, List.range.loop, Op.eqItems, Sem.run_bind, (q _ _ _ _).1, (q _ _ _ _).2.1, (q _ _ _ _).2.2.1, (q _ _ _ _).2.2.2, Result.andThen_ok, eqi w he 9998, Sem.run_ite, Sem.run_pure]
  cases (a == 0) <;> cases (b == 0) <;> cases (c == 0) <;> cases (d == 0) <;> rfl

set_option maxRecDepth 100000 in
set_option maxHeartbeats 400000 in
theorem crcburst_any (A : Option Addr) (n cap : Nat) (l : List Nat) (at0 : Int) (x0 x1 x2 x3 : Nat) (w : World)
    (hA : A = none → cap = 0 ∧ n = 0) (hl : Hid (l.length = n)) (hn : n ≤ cap) (hcap : cap ≤ 9223372036854775807) (hb : Hid (Bs w w.heap.size A l))
    (hx0 : x0 < 256) (hx1 : x1 < 256) (hx2 : x2 < 256) (hx3 : x3 < 256) (ht : Hid (TabW w)) (hz : 0 < w.heap.size) :
    Calls Tryd.prog 6 #[.slice A n cap, .int .i64 at0, .agg #[.int .u8 (x0 : Int), .int .u8 (x1 : Int), .int .u8 (x2 : Int), .int .u8 (x3 : Int)]] w fun e w' => e = .returned (.bool true) ∧ Below w.heap.size w w' := by
  obtain ⟨m, k, hm, hk, hbk, hm3⟩ := cut300 hl.out hb.out 100
  have HA : Hid (A = none → m = 0 ∧ cap = 0) := fun e => ⟨by have := hA e; omega, (hA e).1⟩
  clear hA
  obtain ⟨i0, hi, hz0, hz1, hz2⟩ := info_parts info_byte
  have heq0 := fun w : World => eq4 w (P := Tryd.prog) Tryd.underlying30 Tryd.underlying5 hi (by kernel_rfl) (x0 : Int) x1 x2 x3
  have I0 := Lib.hid (And.intro hi (And.intro hz0 (And.intro hz1 hz2))); clear hi hz0 hz1 hz2
  by_cases hx : x0 = 0 ∧ x1 = 0 ∧ x2 = 0 ∧ x3 = 0
  · have hb0 : ((x0 : Int) == 0 && ((x1 : Int) == 0 && ((x2 : Int) == 0 && (x3 : Int) == 0))) = true := by
      obtain ⟨rfl, rfl, rfl, rfl⟩ := hx; rfl
    rw [hb0] at heq0
    clear hb0 hx
    rcases hm with ⟨h, rfl⟩ | ⟨h, rfl⟩
    · by_cases h4 : m < 4
      all_goals
        go_enter Tryd.func6, Tryd.ntmps6
        go_wp2_with fail
        refine (awake_any _ (tab_alloc ht.out hz _) (by simp)).mono ?_
        rintro e w1 ⟨rfl, hb1⟩
        go_wp2
        go_ret
        exact ⟨rfl, ((Below.refl w.heap.size w).alloc (Nat.le_refl _) _).trans (hb1.mono (by simp))⟩
    · go_enter Tryd.func6, Tryd.ntmps6
      go_wp2_with fail
      refine (awake_any _ (tab_alloc ht.out hz _) (by simp)).mono ?_
      rintro e w1 ⟨rfl, hb1⟩
      go_wp2
      go_ret
      exact ⟨rfl, ((Below.refl w.heap.size w).alloc (Nat.le_refl _) _).trans (hb1.mono (by simp))⟩
  · have hb0 : ((x0 : Int) == 0 && ((x1 : Int) == 0 && ((x2 : Int) == 0 && (x3 : Int) == 0))) = false := by
      rw [Bool.eq_false_iff]
      intro e
      simp only [Bool.and_eq_true, beq_iff_eq] at e
      exact hx ⟨by omega, by omega, by omega, by omega⟩
    rw [hb0] at heq0
    have HX := Lib.hid hx; clear hb0 hx
    by_cases h4 : m < 4
    · rcases hm with ⟨h, rfl⟩ | ⟨h, rfl⟩
      · go_enter Tryd.func6, Tryd.ntmps6
        go_wp2_with fail
        refine (awake_any _ (tab_alloc ht.out hz _) (by simp)).mono ?_
        rintro e w1 ⟨rfl, hb1⟩
        go_wp2
        go_ret
        exact ⟨rfl, ((Below.refl w.heap.size w).alloc (Nat.le_refl _) _).trans (hb1.mono (by simp))⟩
      · omega
    · have b1 : Hid (0 + m ≤ maxLen ∧ (0 + m) * 1 ≤ 140737488355328 ∧ (vals k).length = m * 1) := ⟨by unfold maxLen; omega, by omega, by rw [vals_length, hk.out]; omega⟩
      have hs0 : Hid (Bs (w.alloc (.cells #[.int .u8 (x0 : Int), .int .u8 (x1 : Int), .int .u8 (x2 : Int), .int .u8 (x3 : Int)] 30)) w.heap.size A k) := hbk.out.below ((Below.refl w.heap.size w).alloc (Nat.le_refl _) _) (Nat.le_refl _)
      obtain ⟨t, p, e1, ht1, ht2, e2, hp⟩ := place_of at0 m (by omega)
      have hxs : Hid (∀ j, [x0, x1, x2, x3].getD j 0 < 256) := fun j => by
        match j with
        | 0 => exact hx0
        | 1 => exact hx1
        | 2 => exact hx2
        | 3 => exact hx3
        | _ + 4 => exact Nat.zero_lt_succ _
      have hne : Hid ((Crc.upd 0#32 k) ≠ (Crc.upd 0#32 (Crc.md k p [x0, x1, x2, x3] 4))) := Crc.burst_md 0#32 k p x0 x1 x2 x3 (by rw [hk.out]; exact hp) hx0 hx1 hx2 hx3 HX.out
      have hlt : Hid (∀ x ∈ k, x < 256) := hbk.out.lt
      have hlen := Crc.md_length k p [x0, x1, x2, x3]
      have hmd := Crc.md_lt k p [x0, x1, x2, x3] hlt.out hxs.out
      have HL := Lib.hid hlen; clear hlen
      have HM := Lib.hid hmd; clear hmd
      have hnew : Hid (∀ j, j < 4 → (w.alloc (.cells #[.int .u8 (x0 : Int), .int .u8 (x1 : Int), .int .u8 (x2 : Int), .int .u8 (x3 : Int)] 30)).cell? ⟨w.heap.size, j, none⟩ = some (.int .u8 (([x0, x1, x2, x3].getD j 0 : Nat) : Int))) := fun j hj => by
        rw [cell_of_row _ _ _ _ _ _ (heap_alloc_new w _)]
        obtain rfl | rfl | rfl | rfl : j = 0 ∨ j = 1 ∨ j = 2 ∨ j = 3 := by omega
        all_goals rfl
      have hd4 : decide ((m : Int) < 4) = false := decide_eq_false (by omega)
      have h4' : 4 ≤ m := by omega
      rcases hm with ⟨h, rfl⟩ | ⟨h, rfl⟩
      case' inr => simp at e1 e2
      case' inr => clear hd4
      all_goals
        clear h4
        go_enter Tryd.func6, Tryd.ntmps6
        go_wp2_with (at_builtin; refine append_onto rfl (.const (.slice none 0 0)) (.tmp 36) 23 rfl (w.heap.size + 1) 5 i0 (.int .u8 0) 1 1 Tryd.underlying23 I0.out.1 I0.out.2.1 I0.out.2.2.1 I0.out.2.2.2 rfl (by decide) _ 0 [] rfl (World.ownsRow_nil _ _ _ _) A _ cap (vals k) rfl HA.out b1.out.2.2 (fun ad e => by have h := hs0.out; rw [e] at h; exact h.cells) (vals_one _) b1.out.1 b1.out.2.1 (by simp) ?_; intro v1 w2 hown1 hg1; simp only [Nat.zero_add, List.nil_append] at hown1)
        have hz2 : Hid (Below (w.heap.size + 1) (w.alloc (.cells #[.int .u8 (x0 : Int), .int .u8 (x1 : Int), .int .u8 (x2 : Int), .int .u8 (x3 : Int)] 30)) w2) := (Below.refl _ _).grown hg1 (by simp) (fun g e => by cases e)
        obtain ⟨B2, c2, hv, _, _, hc1, hc2, hB2⟩ := own_bytes hown1 hlt.out
        obtain ⟨g, rfl, hg2, hg3⟩ : ∃ g, B2 = some ⟨g, 0, none⟩ ∧ w.heap.size + 1 ≤ g ∧ g < w2.heap.size := by
          rcases hB2 with ⟨_, e, _⟩ | h
          · omega
          · exact h
        subst hv
        clear hB2 hg1 heq0
        go_loopw [8] (fun iv wr => ∃ j : Nat, j ≤ 4 ∧ iv = .int .i64 j ∧ Hid (wr.ownsRow (w.heap.size + 1) 5 1 (.slice (some ⟨g, 0, none⟩) k.length c2) k.length (vals (Crc.md k p [x0, x1, x2, x3] j))) ∧ Hid (Below (w.heap.size + 1) (w.alloc (.cells #[.int .u8 (x0 : Int), .int .u8 (x1 : Int), .int .u8 (x2 : Int), .int .u8 (x3 : Int)] 30)) wr)) (fun iv _ => 4 - (intOf iv).toNat)
        case atStart => exact ⟨0, Nat.zero_le _, rfl, by have e := hk.out; rw [e]; exact hown1, hz2⟩
        case round =>
          obtain ⟨j, hj, rfl, hown, hbel⟩ := hrel
          by_cases hlt4 : j < 4
          · have hy := getD_lt (HM.out j) (p + j)
            have hxj := hxs.out j
            have hpl : p + j < (Crc.md k p [x0, x1, x2, x3] j).length := by have e := hk.out; rw [HL.out, e]; omega
            have hcell : wr.cell? ⟨g, p + j, none⟩ = some (.int .u8 (((Crc.md k p [x0, x1, x2, x3] j).getD (p + j) 0 : Nat) : Int)) := by
              have e := hk.out
              rw [hown.out.cellAt (p + j) (by rw [e]; omega)]
              exact vals_at hpl
            clear hpl
            have hfz : wr.frozen? ⟨g, p + j, none⟩ = false := hown.out.frozenAt _
            have hbx : wr.cell? ⟨w.heap.size, j, none⟩ = some (.int .u8 (([x0, x1, x2, x3].getD j 0 : Nat) : Int)) := (hbel.out.cell (by simp)).trans (hnew.out j hlt4)
            have hst : Hid (vals (Crc.md k p [x0, x1, x2, x3] (j + 1)) = (vals (Crc.md k p [x0, x1, x2, x3] j)).set (p + j) (.int .u8 (((Crc.md k p [x0, x1, x2, x3] j).getD (p + j) 0 ^^^ [x0, x1, x2, x3].getD j 0 : Nat) : Int))) := by
              show _ = _
              rw [vals_set]; rfl
            generalize (Crc.md k p [x0, x1, x2, x3] j).getD (p + j) 0 = y at hy hcell hst
            generalize [x0, x1, x2, x3].getD j 0 = z at hxj hbx hst
            have ex := u8_xor_nat y z hy hxj
            generalize y ^^^ z = u at ex hst
            go_wp2
            go_region
            go_wp2
            go_roundw
            case rel =>
              have h1 := (hown.out.stored (p + j) (.int .u8 (u : Int))).1
              rw [← hst.out] at h1
              have h2 := hbel.out.setCell (p := ⟨g, p + j, none⟩) hg2 (.int .u8 (u : Int))
              exact ⟨j + 1, by omega, by go_num, h1, h2.drew⟩
            case measure => simp [intOf]; omega
          · obtain rfl : j = 4 := by omega
            have hz4 : Hid (Below w.heap.size w wr) := ((Below.refl w.heap.size w).alloc (Nat.le_refl _) _).trans (hbel.out.mono (Nat.le_succ _))
            have htw : Hid (TabW wr) := ht.out.below hz4.out hz
            have hsz : 0 < wr.heap.size := Nat.lt_of_lt_of_le hz hz4.out.size
            obtain ⟨B3, c3, hv3, hbs3, hlen3, _, _, _⟩ := own_bytes hown.out (HM.out 4)
            injection hv3 with hv3 hv4 hv5
            subst hv3
            go_wp2_with fail
            refine (awake_any wr htw hsz).mono ?_
            rintro e w5 ⟨rfl, hb5⟩
            have hz5 : Hid (Below w.heap.size w w5) := hz4.out.trans (hb5.mono hz4.out.size)
            have ht5 : Hid (TabW w5) := ht.out.below hz5.out hz
            have hsa : Hid (Bs w5 w.heap.size A k) := hbk.out.below hz5.out (Nat.le_refl _)
            have hsb : Hid (Bs w5 wr.heap.size (some ⟨g, 0, none⟩) (Crc.md k p [x0, x1, x2, x3] 4)) := hbs3.below hb5 (Nat.le_refl _)
            have HL3 : Hid ((Crc.md k p [x0, x1, x2, x3] 4).length = _) := hlen3
            clear hb5 hbs3 hlen3
            have HL4 : Hid ((Crc.md k p [x0, x1, x2, x3] 4).length = _) := (HL.out 4).trans hk.out
            have hq : ((Crc.U (Crc.upd 0#32 k) : Int) != (Crc.U (Crc.upd 0#32 (Crc.md k p [x0, x1, x2, x3] 4)) : Int)) = true := by
              rw [bne_iff_ne]
              intro e
              exact hne.out (Crc.U_inj _ _ (by omega))
            go_wp2_with fail
            refine (sum_any A w.heap.size cap _ k w5 hk (by omega) hsa ht5).mono ?_
            rintro e w6 ⟨rfl, rfl⟩
            go_wp2_with fail
            refine (sum_any (some ⟨g, 0, none⟩) wr.heap.size _ _ (Crc.md k p [x0, x1, x2, x3] 4) w5 HL4 (by omega) hsb ht5).mono ?_
            rintro e w6 ⟨rfl, rfl⟩
            go_wp2
            go_ret
            exact ⟨rfl, hz5.out⟩
end Go.Proofs.YtogaoemeiclpjaaDoor
