/-
  The reference's Cut.
-/
import Derived.Test.YtmkilbogdenljaaSlRefs2
import Derived.Test.YtmkilbogdenljaaSlSpare
set_option maxRecDepth 100000
namespace Go.Proofs.Ytmkilbogdenljaa
open Go.RowKit
/-- A list's rest, read through the rest of the slice. -/
theorem regs_drop {w : World} {lo B g o : Nat} {l : List Gm.R} (h : Arr regS w lo B (some ⟨g, o, none⟩) l) (k : Nat) : Arr regS w lo B (some ⟨g, o + k * 10, none⟩) (l.drop k) := fun i hi => by
  rw [List.length_drop] at hi
  obtain ⟨ad, e, h2, h3, h4⟩ := h (k + i) (by omega)
  injection e with e
  subst e
  refine ⟨_, rfl, h2, h3, fun j v hv => ?_⟩
  have hg : (l.drop k).getD i regS.z = l.getD (k + i) regS.z := by
    rw [List.getD_eq_getElem?_getD, List.getElem?_drop, ← List.getD_eq_getElem?_getD]
  rw [hg] at hv
  have := h4 j v hv
  rw [arr_flat] at this ⊢
  rw [show o + k * 10 + (i * regS.m + j) = o + ((k + i) * regS.m + j) by show o + k * 10 + (i * 10 + j) = o + ((k + i) * 10 + j); omega]
  exact this
set_option maxHeartbeats 4000000 in
theorem refslcut_any (a b c d : Int) (A : Option Addr) (lo B n cap : Nat) (live : List Gm.R) (w : World) (hB : B ≤ w.heap.size) (hn : Hid (live.length = n)) (hn2 : n ≤ 100000) (hb : Hid (Arr regS w lo B A live)) :
    Calls Try.prog 21 #[.agg #[.int .i64 a, .int .i64 b, .int .i64 c, .int .i64 d], .slice A n cap] w fun e w' => e = .returned (.int .i64 (Sl.cut ⟨a, b, c, d⟩ (Sl.order live) : Int)) ∧ Below w.heap.size w w' := by
  have CO : Hid (∀ W, Below w.heap.size w W → Calls Try.prog 11 #[.slice A n cap] W (OrdIs W (Sl.order live))) := fun W hW => refslorder_any A lo B n cap live W (Nat.le_trans hB hW.size) hn hn2 (Lib.hid (hb.out.below hW hB))
  have HS0 := Lib.hid (sd_new w #[.int .i64 a, .int .i64 b, .int .i64 c, .int .i64 d] 23)
  have hlen : (Sl.order live).length = n := (Sl.order_length live).trans hn.out
  generalize Sl.order live = L at *
  clear hn hb hB
  go_enter Try.func21, Try.ntmps21
  go_upto_region 1 with fail
  generalize w.alloc (.cells #[.int .i64 a, .int .i64 b, .int .i64 c, .int .i64 d] 23) = w0 at *
  go_wp2_with fail
  refine (CO.out _ HS0.out.2).mono ?_
  rintro e w1 ⟨v, rfl, hr, hb1⟩
  have HS1 := Lib.hid (HS0.out.next hb1 (by rfl) (by rfl) (by rfl) (by rfl))
  have hsl : ∃ (g c1 : Nat) (A1 : Option Addr), v = .slice A1 n c1 ∧ n ≤ c1 ∧ Hid (0 < n → A1 = some ⟨g, 0, none⟩ ∧ Arr regS w1 w0.heap.size w1.heap.size A1 L) := by
    rcases Nat.eq_zero_or_pos n with h0 | h0
    · obtain ⟨A1, c1, rfl, hs1, -⟩ := hr.open_
      rw [hlen] at *
      exact ⟨0, c1, A1, rfl, hs1.2.1, fun h => by omega⟩
    · rw [hlen] at hr
      obtain ⟨g, c1, rfl, hc, ha⟩ := hr.box h0
      exact ⟨g, c1, _, rfl, hc, fun _ => ⟨rfl, ha⟩⟩
  obtain ⟨g, c1, A1, rfl, hc1, HA⟩ := hsl
  have HL := Lib.hid hlen
  clear hr hb1 CO HS0 hlen
  go_wp2_with fail
  go_loopw [6] (fun iv wr => ∃ k : Nat, k ≤ n ∧ iv = .int .i64 (k : Int) ∧ Hid (∀ j, j < k → ¬ Sl.ok ⟨a, b, c, d⟩ (L.drop j)) ∧ Hid (Sd w w.heap.size (.cells #[.int .i64 a, .int .i64 b, .int .i64 c, .int .i64 d] 23 (0, 0)) wr) ∧ Hid (Below w1.heap.size w1 wr)) (fun i _ => n - (intOf i).toNat)
  case atStart => exact ⟨0, Nat.zero_le _, rfl, fun j h => absurd h (Nat.not_lt_zero _), HS1, Below.refl _ _⟩
  case round =>
    clear HS1
    obtain ⟨k, hk, rfl, HK, HS, HB⟩ := hrel
    by_cases hlt : k < n
    · obtain ⟨e1, ha⟩ := HA.out (by omega)
      subst e1
      have HA2 : Hid (Arr regS wr w0.heap.size w1.heap.size (some ⟨g, k * 10, none⟩) (L.drop k)) := by
        have h := regs_drop (ha.below HB.out (Nat.le_refl _)) k
        rwa [Nat.zero_add] at h
      have HDL : Hid ((L.drop k).length = n - k) := by show _ = _; rw [List.length_drop, HL.out]
      have CC : Hid (∀ W, Below wr.heap.size wr W → ∀ cp, Calls Try.prog 17 #[.agg #[.int .i64 a, .int .i64 b, .int .i64 c, .int .i64 d], .slice (some ⟨g, k * 10, none⟩) (n - k) cp] W fun e w' => e = .returned (.tuple #[.int .i64 (Sl.choose ⟨a, b, c, d⟩ (L.drop k)), .bool (decide (Gm.free ⟨a, b, c, d⟩ (L.drop k) ≠ []))]) ∧ Below W.heap.size W w') := fun W hW cp =>
        refslchoose_any a b c d _ w0.heap.size w1.heap.size (n - k) cp _ W (Nat.le_trans HB.out.size hW.size) HDL (by omega) (Lib.hid (HA2.out.below hW HB.out.size))
      have CB : Hid (∀ W, Below wr.heap.size wr W → ∀ cp, Calls Try.prog 37 #[.slice (some ⟨g, k * 10, none⟩) (n - k) cp] W fun e w' => e = .returned (.int .i64 (Sl.bytes (L.drop k))) ∧ Below W.heap.size W w') := fun W hW cp =>
        refslbytes_any _ w0.heap.size w1.heap.size (n - k) cp _ W (Nat.le_trans HB.out.size hW.size) HDL (by omega) (Lib.hid (HA2.out.below hW HB.out.size))
      obtain ⟨z0, z1, z2, z3⟩ := four_cells HS.out.1
      clear ha HA2 HA
      generalize Sl.choose ⟨a, b, c, d⟩ (L.drop k) = x at *
      obtain ⟨t, hf⟩ : ∃ t, decide (Gm.free ⟨a, b, c, d⟩ (L.drop k) ≠ []) = t := ⟨_, rfl⟩
      rw [hf] at CC
      have hck : ¬ c1 = k := by omega
      have HBD : Hid (Below wr.heap.size wr wr.drew) := below_drawn (Below.refl _ _) 1
      go_upto_region 5 with fail
      go_cut [7, 8] (fun v7 v8 wx => v7 = .int .i64 x ∧ v8 = .bool t ∧ Hid (Sd w w.heap.size (.cells #[.int .i64 a, .int .i64 b, .int .i64 c, .int .i64 d] 23 (0, 0)) wx) ∧ Hid (Below wr.heap.size wr wx))
      case first =>
        go_region_with (go_at_call 17; ((with_reducible refine (CC.out _ HBD.out (c1 - k)).mono ?_); rintro e w2 ⟨rfl, hb2⟩; have HS2 := Lib.hid (HS.out.next hb2 (by rfl) (by rfl) (by rfl) (by rfl)); have HBW := Lib.hid (HBD.out.trans hb2); clear hb2))
        go_wp2
        go_meet
        exact ⟨rfl, rfl, HS2, HBW⟩
      case rest =>
        obtain ⟨rfl, rfl, HS2, HBW⟩ := hcut
        generalize wc = w2 at *
        have HB2 := Lib.hid (HB.out.trans (HBW.out.mono HB.out.size))
        clear CC HS z0 z1 z2 z3 HBD
        obtain ⟨z0, z1, z2, z3⟩ := four_cells HS2.out.1
        cases t with
        | false =>
          have HK2 : Hid (∀ j, j < k + 1 → ¬ Sl.ok ⟨a, b, c, d⟩ (L.drop j)) := fun j hj => by
            rcases Nat.lt_or_ge j k with h | h
            · exact HK.out j h
            · rw [show j = k by omega]; exact fun ho => (of_decide_eq_false hf) ho.1
          clear hf CB HBW HB
          go_wp2_with fail
          go_quiet (fail)
          go_wp2_with fail
          exact ⟨⟨k + 1, by omega, by go_num, HK2, sd_run HS2.out _, below_drawn HB2.out _⟩, by simp [intOf]; omega⟩
        | true =>
          have hfm := of_decide_eq_true hf
          have hform : Sb.form ⟨a, b, c, d⟩ := Decidable.by_contra fun h => hfm (by unfold Gm.free; rw [if_neg h])
          have hnum := Gm.form_nums hform
          simp only at hnum
          have CP := Lib.hid (fun W => refpkcap_any a b c d (by omega) (by omega) W)
          have hcap : Gm.cap ⟨a, b, c, d⟩ = (c - 1) * 59 := if_pos hform
          have hcg := Sl.cap_ge ⟨a, b, c, d⟩
          have HOK : Hid (Sl.ok ⟨a, b, c, d⟩ (L.drop k) ↔ Sl.bytes (L.drop k) ≤ (d - 1) * Gm.cap ⟨a, b, c, d⟩) := ⟨fun h => h.2, fun h => ⟨hfm, h⟩⟩
          rw [← hcap] at CP
          generalize Gm.cap ⟨a, b, c, d⟩ = C at *
          have hz : 0 ≤ (d - 1) * C ∧ (d - 1) * C ≤ 15 * 120773 := by
            refine ⟨Int.mul_nonneg (by omega) hcg.1, Int.le_trans (Int.mul_le_mul_of_nonneg_right (show d - 1 ≤ 15 by omega) hcg.1) (by omega)⟩
          have w1' : wrap64 (d - 1) = d - 1 := by unfold wrap64; omega
          obtain ⟨Z, hZ⟩ : ∃ Z, (d - 1) * C = Z := ⟨_, rfl⟩
          rw [hZ] at HOK hz
          have w2' : wrap64 ((d - 1) * C) = Z := by rw [hZ]; unfold wrap64; omega
          have w3' : IntKind.i64.wrap (d - 1) = d - 1 := by rw [IntKind.wrap_i64]; omega
          have w4' : IntKind.i64.wrap ((d - 1) * C) = Z := by rw [hZ, IntKind.wrap_i64]; omega
          clear hcap hcg hz hform hnum hfm hf hZ
          have HB3 : Hid (Below wr.heap.size wr w2.drew) := below_drawn HBW.out 1
          have HS3 : Hid (Sd w w.heap.size (.cells #[.int .i64 a, .int .i64 b, .int .i64 c, .int .i64 d] 23 (0, 0)) w2.drew) := sd_run HS2.out 1
          generalize Sl.bytes (L.drop k) = Y at *
          go_upto_region 6 with fail
          go_cut [38] (fun v wx => v = .bool (decide (Y ≤ Z)) ∧ Hid (Sd w w.heap.size (.cells #[.int .i64 a, .int .i64 b, .int .i64 c, .int .i64 d] 23 (0, 0)) wx) ∧ Hid (Below wr.heap.size wr wx))
          case first =>
            go_region_with (first
              | (go_at_call 37; ((with_reducible refine (CB.out _ HB3.out (c1 - k)).mono ?_); rintro e w4 ⟨rfl, hb4⟩; have HS4 := Lib.hid (HS3.out.next hb4 (by rfl) (by rfl) (by rfl) (by rfl)); have HB4 := Lib.hid (HB3.out.trans (hb4.mono HB3.out.size)); clear hb4; obtain ⟨y0, y1, y2, y3⟩ := four_cells HS4.out.1))
              | (go_at_call 38; ((with_reducible refine (CP.out _).mono ?_); rintro e w5 ⟨rfl, hb5⟩; have HS5 := Lib.hid (HS4.out.next hb5 (by rfl) (by rfl) (by rfl) (by rfl)); have HB5 := Lib.hid (HB4.out.trans (hb5.mono HB4.out.size)); clear hb5; obtain ⟨x0, x1, x2, x3⟩ := four_cells HS5.out.1)))
            all_goals
              go_wp2
              go_meet
              exact ⟨by first | rw [w4'] | rw [w2'] | rfl, HS5, HB5⟩
          case rest =>
            obtain ⟨rfl, HS6, HB6⟩ := hcut
            generalize wc = w6 at *
            have HB7 := Lib.hid (HB.out.trans (HB6.out.mono HB.out.size))
            cases hle : decide (Y ≤ Z) with
            | true =>
              have HR : Hid ((Sl.cut ⟨a, b, c, d⟩ L : Int) = (k : Int)) := by
                show _ = _
                rw [Sl.cut_at (by rw [HL.out]; exact hlt) HK.out (HOK.out.2 (of_decide_eq_true hle))]
              clear HOK
              go_wp2_with fail
              go_ret
              exact ⟨by rw [HR.out]; rfl, HS6.out.2⟩
            | false =>
              have HK2 : Hid (∀ j, j < k + 1 → ¬ Sl.ok ⟨a, b, c, d⟩ (L.drop j)) := fun j hj => by
                rcases Nat.lt_or_ge j k with h | h
                · exact HK.out j h
                · rw [show j = k by omega]; exact fun ho => (of_decide_eq_false hle) (HOK.out.1 ho)
              clear HOK
              go_wp2_with fail
              exact ⟨⟨k + 1, by omega, by go_num, HK2, HS6, HB7⟩, by simp [intOf]; omega⟩
    · obtain rfl : k = n := by omega
      have HR : Hid ((Sl.cut ⟨a, b, c, d⟩ L : Int) = (k : Int)) := by
        show _ = _
        rw [Sl.cut_all (fun j hj => HK.out j (by rw [← HL.out]; exact hj)), HL.out]
      go_wp2_with fail
      go_ret
      exact ⟨by rw [HR.out]; rfl, HS.out.2⟩
end Go.Proofs.Ytmkilbogdenljaa
