/-
  The walk of the statement on many keys, set, found and deleted again.
-/
import Derived.Test.YtflnjippknpflaaTbNil
import Derived.Test.YtflnjippknpflaaTbEq
import Derived.Test.YtflnjippknpflaaTbLawKeys
set_option maxRecDepth 100000
namespace Go.Proofs.Ytflnjippknpflaa
open Go.RowKit
/-- A table in a law, of an exact number of keys. -/
def TMs (M base : Nat) (w : World) (q : Nat) (H : ByteArray → Tb.En → Prop) (c : Nat) : Prop := ∃ S wk, (∀ k, S k → base ≤ k ∧ k < w.heap.size) ∧ Tab M w S q H c wk
theorem TMs.next {M base : Nat} {w w' : World} {q : Nat} {H : ByteArray → Tb.En → Prop} {c : Nat} (h : TMs M base w q H c) (hb : Below w.heap.size w w') : TMs M base w' q H c := by
  obtain ⟨S, wk, h1, h2⟩ := h
  exact ⟨S, wk, fun k h => ⟨(h1 k h).1, Nat.lt_of_lt_of_le (h1 k h).2 hb.size⟩, h2.next hb⟩
/-- A number cut to 0 up to 199. -/
theorem cut200 (x : Int) : ∃ n : Nat, n < 200 ∧ (wrap64 (x.tmod 200 + 200)).tmod 200 = (n : Int) := by
  have h2 : x.tmod 200 < 200 := Int.tmod_lt_of_pos x (by omega)
  have h3 : -200 < x.tmod 200 := Int.lt_tmod_of_pos x (by omega)
  have h4 : wrap64 (x.tmod 200 + 200) = x.tmod 200 + 200 := IntWalk.wrap64_in _ ⟨by omega, by omega⟩
  have h5 : 0 ≤ (x.tmod 200 + 200).tmod 200 := Int.tmod_nonneg _ (by omega)
  have h6 : (x.tmod 200 + 200).tmod 200 < 200 := Int.tmod_lt_of_pos _ (by omega)
  exact ⟨((x.tmod 200 + 200).tmod 200).toNat, by omega, by rw [h4]; omega⟩
theorem name_nat (m : Nat) (hm : m < 1000) (w : World) :
    Calls Try.prog 9 #[.int .i64 (m : Int)] w fun e w' => e = .returned (.string (nm m)) ∧ Below w.heap.size w w' := by
  refine (name_any _ w).mono ?_
  rintro e w' ⟨m', h1, h2, rfl, h3⟩
  obtain rfl : m' = m := by omega
  exact ⟨rfl, h3⟩
set_option maxHeartbeats 4000000 in
theorem tablemany_any (x y : Int) (w : World) :
    Calls Try.prog 6 #[.int .i64 x, .int .i64 y] w fun e w' => e = .returned (.bool true) ∧ Below w.heap.size w w' := by
  have CN := Lib.hid (tnew_any 201 w.heap.size w (Nat.le_refl _))
  obtain ⟨B, hB⟩ : ∃ B, w.heap.size = B := ⟨_, rfl⟩
  obtain ⟨q, hq⟩ : ∃ q, w.heap.size = q := ⟨_, rfl⟩
  have HB := Lib.hid hB
  have CN : Hid (Calls Try.prog 8 #[] w fun e w' => e = .returned (.pointer (some ⟨q, 0, none⟩)) ∧ Below B w w' ∧ (∀ k, k = q → B ≤ k ∧ k < w'.heap.size) ∧ Tab 201 w' (fun k => k = q) q (fun _ _ => False) 0 0) := by
    have := CN.out
    rw [hB] at this
    rw [← hq, hB]
    exact this
  rw [hB]
  clear hB hq
  obtain ⟨n, hn, hx⟩ := cut200 x
  obtain ⟨f, hf, hy⟩ := cut200 y
  have HZ : Hid (∀ W, Below B w W → B ≤ W.heap.size) := fun W h => HB.out ▸ h.size
  have HM1 : Hid (∀ W W', Below B w W → Below W.heap.size W W' → Below B w W') := fun W W' h h' => h.trans (h'.mono (HZ.out W h))
  go_enter Try.func6, Try.ntmps6
  go_wp2_with fail
  refine CN.out.mono ?_
  rintro e w1 ⟨rfl, hb1, hS1, hT1⟩
  have HB1 := Lib.hid hb1
  have HS1 := Lib.hid hS1
  have HT1 := Lib.hid hT1
  clear hb1 hS1 hT1 CN hx
  go_wp2_with fail
  go_loopw [6] (fun iv wr => ∃ k : Nat, k ≤ n ∧ iv = .int .i64 (k : Int) ∧ Hid (TMs 201 B wr q (MH (· < k)) k) ∧ Hid (Below B w wr)) (fun i _ => n - (Go.RowKit.intOf i).toNat)
  case atStart => exact ⟨0, Nat.zero_le _, rfl, ⟨_, 0, HS1.out, HT1.out.congr fun k x => ⟨False.elim, fun ⟨j, h, _⟩ => absurd h (Nat.not_lt_zero _)⟩⟩, HB1.out⟩
  case round =>
    obtain ⟨k, hk, rfl, hst, hbel⟩ := hrel
    by_cases hlt : k < n
    · go_wp2_with fail
      refine (name_nat k (by omega) wr).mono ?_
      rintro e w3 ⟨rfl, hb3⟩
      have HB3 := Lib.hid (HM1.out _ _ hbel.out hb3)
      obtain ⟨S2, wk2, hS2, hT2⟩ := hst.out.next hb3
      clear hst hb3
      go_wp2_with fail
      refine (tset_any 201 B q k wk2 (nm k) 0 k 0 0 false _ S2 w3 (HZ.out _ HB3.out) (by decide) (nm_size k) (by omega) hS2 hT2).mono ?_
      rintro e w4 ⟨rfl, S4, c4, wk4, hn4, hcc, hT4, -⟩
      have HST : Hid (TMs 201 B w4 q (MH (· < k + 1)) (k + 1)) := by
        rcases hcc with ⟨⟨x, h⟩, _⟩ | ⟨_, rfl⟩
        · exact absurd h (MH.fresh k (by omega) x)
        · exact ⟨S4, wk4, hn4.own, hT4.congr fun k' e' => MH.next k k' e' (by omega)⟩
      have HB4 := Lib.hid (HB3.out.trans hn4.below)
      clear hn4 hcc hT4 hT2 hS2
      go_wp2_with fail
      go_roundw
      case rel => exact ⟨k + 1, by omega, by go_num, HST, HB4⟩
      case measure => simp [Go.RowKit.intOf]; omega
    · obtain rfl : k = n := by omega
      clear hlt
      obtain ⟨S2, wk2, hS2, hT2⟩ := hst.out
      have CL := Lib.hid (tlen_any 201 q k wk2 _ S2 wr hT2)
      have CP := Lib.hid (tpairs_any 201 q k wk2 _ S2 wr (by decide) (fun k x ⟨j, _, h, _⟩ => h ▸ nm_size j) hT2)
      have hkk : ((k : Int) == (k : Int)) = true := beq_self_eq_true _
      have hkk2 : (k == k) = true := beq_self_eq_true _
      clear hS2 hT2
      go_wp2_with fail
      refine CL.out.mono ?_
      rintro e w3 ⟨rfl, rfl⟩
      go_wp2_with fail
      refine CP.out.mono ?_
      rintro e w3 ⟨g, pc, L, rfl, -, -, hLc, hcap1, hcap2, -, hb3⟩
      rw [hLc] at hcap1 ⊢
      have HB3 := Lib.hid (HM1.out _ _ hbel.out hb3)
      have HST := Lib.hid (hst.out.next hb3)
      clear hLc hb3 hst hbel CL CP
      go_wp2_with fail
      clear hy
      by_cases h7 : k % 7 = 0
      · have hr : (k : Int).tmod 7 = 0 := by rw [Int.tmod_eq_emod_of_nonneg (by omega)]; omega
        have H7 := Lib.hid h7
        clear h7
        go_loopw [7] (fun iv wr => ∃ i : Nat, i ≤ k ∧ iv = .int .i64 (i : Int) ∧ Hid (TMs 201 B wr q (MH (· < k)) k) ∧ Hid (Below B w wr)) (fun i _ => k - (Go.RowKit.intOf i).toNat)
        case atStart => exact ⟨0, Nat.zero_le _, rfl, HST.out, HB3.out⟩
        case round =>
          clear HST HB3
          obtain ⟨i, hi, rfl, hst, hbel⟩ := hrel
          by_cases hlt : i < k
          · obtain ⟨j, hj⟩ : ∃ j, (i * 7 + f) % k = j := ⟨_, rfl⟩
            have hjk : j < k := hj ▸ Nat.mod_lt _ (by omega)
            have hjm : ((i : Int) * 7 + (f : Int)).tmod (k : Int) = (j : Int) := by
              rw [show (i : Int) * 7 + (f : Int) = ((i * 7 + f : Nat) : Int) by omega, ← hj]
              exact (Int.ofNat_tmod _ _).symm
            have hk0 : ¬ k = 0 := by omega
            have hk1 : ((k : Int) == 0) = false := beq_eq_false_iff_ne.2 (by omega)
            have HJ := Lib.hid hj
            clear hj
            go_wp2_with fail
            refine (name_nat j (by omega) wr).mono ?_
            rintro e w3 ⟨rfl, hb3⟩
            have HB3 := Lib.hid (HM1.out _ _ hbel.out hb3)
            obtain ⟨S2, wk2, hS2, hT2⟩ := hst.out.next hb3
            clear hst hb3 hbel hjm hk0 hk1
            go_wp2_with fail
            refine (tget_any 201 B q k wk2 (nm j) _ S2 w3 (HZ.out _ HB3.out) (by decide) (nm_size j) hS2 hT2).mono ?_
            rintro e w4 ⟨a0, a1, a2, a3, a4, y, rfl, hy, hn4, wk4, hT4, -⟩
            have HST := Lib.hid (show TMs 201 B w4 q (MH (· < k)) k from ⟨S2, wk4, hn4.own, hT4⟩)
            have HB4 := Lib.hid (HB3.out.trans hn4.below)
            have HL5 : Hid (Below w4.heap.size w4 (w4.alloc (.cells #[.int .i64 a0, .int .i64 a1, .int .i64 a2, .int .i64 a3, .bool a4] 30))) := (Below.refl _ _).alloc (Nat.le_refl _) _
            have HB5 := Lib.hid (HM1.out _ _ HB4.out HL5.out)
            have HS5 := Lib.hid (HST.out.next HL5.out)
            clear hy hn4 hT4 hS2 hT2 HB3 HB4 HST HL5
            go_wp2_with fail
            go_roundw
            case rel => exact ⟨i + 1, by omega, by go_num, HS5, HB5⟩
            case measure => simp [Go.RowKit.intOf]; omega
          · have hik : k = i := by omega
            subst hik
            clear hlt
            go_wp2_with fail
            refine (nilset_any keyA 0 0 0 0 false wr).mono ?_
            rintro e w3 ⟨rfl, hb3⟩
            have HB3 := Lib.hid (HM1.out _ _ hbel.out hb3)
            clear hb3 hbel hst
            go_wp2_with fail
            refine (nilget_any keyA w3).mono ?_
            rintro e w4 ⟨rfl, hb4⟩
            have HB4 := Lib.hid (HM1.out _ _ HB3.out hb4)
            have HL5 : Hid (Below w4.heap.size w4 (w4.alloc (.cells #[.int .i64 0, .int .i64 0, .int .i64 0, .int .i64 0, .bool false] 30))) := (Below.refl _ _).alloc (Nat.le_refl _) _
            have HB5 := Lib.hid (HM1.out _ _ HB4.out HL5.out)
            clear hb4 HL5 HB3 HB4
            go_wp2_with fail
            generalize w4.alloc (.cells #[.int .i64 0, .int .i64 0, .int .i64 0, .int .i64 0, .bool false] 30) = w5 at *
            refine (tbawake_any w5).mono ?_
            rintro e w6 ⟨rfl, hb6⟩
            have HB6 := Lib.hid (HM1.out _ _ HB5.out hb6)
            clear hb6 HB5
            go_wp2_with fail
            refine (nildel_any keyA w6).mono ?_
            rintro e w' ⟨rfl, rfl⟩
            go_wp2_with fail
            refine (nillen_any w6).mono ?_
            rintro e w' ⟨rfl, rfl⟩
            go_wp2_with fail
            refine (nilpairs_any w6).mono ?_
            rintro e w' ⟨rfl, rfl⟩
            go_wp2_with fail
            refine (nilplaces_any w6).mono ?_
            rintro e w' ⟨rfl, rfl⟩
            go_wp2_with fail
            refine (nilwork_any w6).mono ?_
            rintro e w' ⟨rfl, rfl⟩
            go_wp2_with fail
            go_ret
            exact ⟨rfl, HB6.out⟩
      · obtain ⟨r, hr0, hr⟩ : ∃ r : Nat, r ≠ 0 ∧ (k : Int).tmod 7 = (r : Int) := ⟨k % 7, h7, (Int.ofNat_tmod k 7).symm⟩
        have hr1 : ((r : Int) == 0) = false := beq_eq_false_iff_ne.2 (by omega)
        have hr2 : (r == 0) = false := beq_eq_false_iff_ne.2 hr0
        have H7 := Lib.hid h7
        clear h7
        go_loopw [7] (fun iv wr => ∃ i : Nat, i ≤ k ∧ iv = .int .i64 (i : Int) ∧ Hid (TMs 201 B wr q (MH (Left k f i)) (k - i)) ∧ Hid (Below B w wr)) (fun i _ => k - (Go.RowKit.intOf i).toNat)
        case atStart =>
          obtain ⟨S2, wk2, hS2, hT2⟩ := HST.out
          exact ⟨0, Nat.zero_le _, rfl, ⟨S2, wk2, hS2, hT2.congr fun k' e' => left0 k f k' e'⟩, HB3.out⟩
        case round =>
          clear HST HB3
          obtain ⟨i, hi, rfl, hst, hbel⟩ := hrel
          by_cases hlt : i < k
          · obtain ⟨j, hj⟩ : ∃ j, (i * 7 + f) % k = j := ⟨_, rfl⟩
            have hjk : j < k := hj ▸ Nat.mod_lt _ (by omega)
            have hjm : ((i : Int) * 7 + (f : Int)).tmod (k : Int) = (j : Int) := by
              rw [show (i : Int) * 7 + (f : Int) = ((i * 7 + f : Nat) : Int) by omega, ← hj]
              exact (Int.ofNat_tmod _ _).symm
            have hk0 : ¬ k = 0 := by omega
            have hk1 : ((k : Int) == 0) = false := beq_eq_false_iff_ne.2 (by omega)
            have HJ := Lib.hid hj
            clear hj
            go_wp2_with fail
            refine (name_nat j (by omega) wr).mono ?_
            rintro e w3 ⟨rfl, hb3⟩
            have HB3 := Lib.hid (HM1.out _ _ hbel.out hb3)
            obtain ⟨S2, wk2, hS2, hT2⟩ := hst.out.next hb3
            clear hst hb3 hbel hjm hk0 hk1
            go_wp2_with fail
            refine (tget_any 201 B q (k - i) wk2 (nm j) _ S2 w3 (HZ.out _ HB3.out) (by decide) (nm_size j) hS2 hT2).mono ?_
            rintro e w4 ⟨a0, a1, a2, a3, a4, y, rfl, hy, hn4, wk4, hT4, -⟩
            obtain ⟨rfl, hye⟩ : y = true ∧ Tb.En.mk a0 a1 a2 a3 a4 = ⟨0, (j : Int), 0, 0, false⟩ := by
              have hh := MH.here k f i H7.out hlt
              rw [HJ.out] at hh
              rcases hy with ⟨h1, h2⟩ | ⟨_, _, h⟩
              · exact ⟨h1, MH.one (fun j h => by have := h.1; omega) (by omega) h2⟩
              · exact absurd hh (h _)
            injection hye with x0 x1 x2 x3 x4
            subst x0 x1 x2 x3 x4
            have HST := Lib.hid (show TMs 201 B w4 q (MH (Left k f i)) (k - i) from ⟨S2, wk4, hn4.own, hT4⟩)
            have HB4 := Lib.hid (HB3.out.trans hn4.below)
            have HL5 : Hid (Below w4.heap.size w4 (w4.alloc (.cells #[.int .i64 0, .int .i64 (j : Int), .int .i64 0, .int .i64 0, .bool false] 30))) := (Below.refl _ _).alloc (Nat.le_refl _) _
            have HB5 := Lib.hid (HM1.out _ _ HB4.out HL5.out)
            have HS5 := Lib.hid (HST.out.next HL5.out)
            clear hy hn4 hT4 hS2 hT2 HB3 HB4 HST HL5
            go_wp2_with fail
            generalize w4.alloc (.cells #[.int .i64 0, .int .i64 (j : Int), .int .i64 0, .int .i64 0, .bool false] 30) = w5 at *
            refine (name_nat j (by omega) w5).mono ?_
            rintro e w6 ⟨rfl, hb6⟩
            have HB6 := Lib.hid (HM1.out _ _ HB5.out hb6)
            obtain ⟨S6, wk6, hS6, hT6⟩ := HS5.out.next hb6
            clear HS5 HB5 hb6
            go_wp2_with fail
            refine (tdel_any 201 B q (k - i) wk6 (nm j) _ S6 w6 (HZ.out _ HB6.out) (by decide) (nm_size j) hS6 hT6).mono ?_
            rintro e w7 ⟨y, c7, wk7, rfl, hy, hn7, hT7, -⟩
            have hh := MH.here k f i H7.out hlt
            rw [HJ.out] at hh
            obtain ⟨rfl, hc7⟩ : y = true ∧ c7 = k - (i + 1) := by
              rcases hy with ⟨h1, _, h2⟩ | ⟨_, h, _⟩
              · exact ⟨h1, by omega⟩
              · exact absurd hh (h _)
            subst hc7
            have HST : Hid (TMs 201 B w7 q (MH (Left k f (i + 1))) (k - (i + 1))) := ⟨S6, wk7, hn7.own, hT7.congr fun k' e' => by
              have := MH.gone k f i k' e' (by omega) hlt
              rw [HJ.out] at this
              exact this⟩
            have HB7 := Lib.hid (HB6.out.trans hn7.below)
            clear hy hn7 hT7 hS6 hT6 hh HB6
            go_wp2_with fail
            go_roundw
            case rel => exact ⟨i + 1, by omega, by go_num, HST, HB7⟩
            case measure => simp [Go.RowKit.intOf]; omega
          · have hik : k = i := by omega
            subst hik
            clear hlt
            have HST0 : Hid (∃ H, TMs 201 B wr q H 0) := ⟨_, by have := hst.out; rw [Nat.sub_self] at this; exact this⟩
            go_wp2_with fail
            refine (nilset_any keyA 0 0 0 0 false wr).mono ?_
            rintro e w3 ⟨rfl, hb3⟩
            have HB3 := Lib.hid (HM1.out _ _ hbel.out hb3)
            have HST3 : Hid (∃ H, TMs 201 B w3 q H 0) := HST0.out.imp fun H h => h.next hb3
            clear hb3 hbel hst
            go_wp2_with fail
            refine (nilget_any keyA w3).mono ?_
            rintro e w4 ⟨rfl, hb4⟩
            have HB4 := Lib.hid (HM1.out _ _ HB3.out hb4)
            have HST4 : Hid (∃ H, TMs 201 B w4 q H 0) := HST3.out.imp fun H h => h.next hb4
            have HL5 : Hid (Below w4.heap.size w4 (w4.alloc (.cells #[.int .i64 0, .int .i64 0, .int .i64 0, .int .i64 0, .bool false] 30))) := (Below.refl _ _).alloc (Nat.le_refl _) _
            have HB5 := Lib.hid (HM1.out _ _ HB4.out HL5.out)
            have HST5 := Lib.hid (HST4.out.imp fun H h => h.next HL5.out)
            clear hb4 HL5 HB3 HB4 HST0 HST3 HST4
            go_wp2_with fail
            generalize w4.alloc (.cells #[.int .i64 0, .int .i64 0, .int .i64 0, .int .i64 0, .bool false] 30) = w5 at *
            refine (tbawake_any w5).mono ?_
            rintro e w6 ⟨rfl, hb6⟩
            have HB6 := Lib.hid (HM1.out _ _ HB5.out hb6)
            obtain ⟨H6, S6, wk6, hS6, hT6⟩ := (HST5.out.imp fun H h => h.next hb6 : ∃ H, TMs 201 B w6 q H 0)
            have CL := Lib.hid (tlen_any 201 q 0 wk6 H6 S6 w6 hT6)
            clear hS6 hT6
            clear hb6 HB5 HST5
            go_wp2_with fail
            refine CL.out.mono ?_
            rintro e w' ⟨rfl, rfl⟩
            go_wp2_with fail
            refine (nildel_any keyA w6).mono ?_
            rintro e w' ⟨rfl, rfl⟩
            go_wp2_with fail
            refine (nillen_any w6).mono ?_
            rintro e w' ⟨rfl, rfl⟩
            go_wp2_with fail
            refine (nilpairs_any w6).mono ?_
            rintro e w' ⟨rfl, rfl⟩
            go_wp2_with fail
            refine (nilplaces_any w6).mono ?_
            rintro e w' ⟨rfl, rfl⟩
            go_wp2_with fail
            refine (nilwork_any w6).mono ?_
            rintro e w' ⟨rfl, rfl⟩
            go_wp2_with fail
            go_ret
            exact ⟨rfl, HB6.out⟩
end Go.Proofs.Ytflnjippknpflaa
