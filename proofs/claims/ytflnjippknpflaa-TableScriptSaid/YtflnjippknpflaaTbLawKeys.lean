/-
  The walk of the statement on keys that are kept apart.
-/
import Derived.Test.YtflnjippknpflaaTbLaw
import Derived.Test.YtflnjippknpflaaHold
import Derived.BigRegion
set_option maxRecDepth 100000
namespace Go.Proofs.Ytflnjippknpflaa
open Go.RowKit
/-- Strings read through a slice. -/
def strS : Shape ByteArray := ⟨fun s => [.string s], ⟨#[]⟩, 1, fun _ => rfl, by decide, fun a u hu => by
  simp only [List.mem_cons, List.not_mem_nil, or_false] at hu
  subst hu; rfl⟩
theorem strs_at {w : World} {lo B : Nat} {ad : Addr} {l : List ByteArray} (h : Arr strS w lo B (some ad) l) (k : Nat) (hk : k < l.length) (s : ByteArray) (e : l.getD k ⟨#[]⟩ = s) : w.cell? (ad.add k) = some (.string s) := by
  have := h.cell k hk 0 (.string s) (by rw [show l.getD k strS.z = s from e]; rfl)
  rwa [show k * strS.m + 0 = k from Nat.mul_one k] at this
/-- The first thirty bytes of a key. -/
def cutS (s : ByteArray) : ByteArray := s.extract 0 (min s.size 30)
theorem cutS_size (s : ByteArray) : (cutS s).size ≤ 1048576 := by
  unfold cutS
  rw [ByteArray.size_extract]
  omega
/-- The entry that the first i of the keys leave. -/
def LastOf (K : Nat → ByteArray) (i : Nat) (k : ByteArray) (e : Tb.En) : Prop := ∃ j, j < i ∧ K j = k ∧ (∀ j', j < j' → j' < i → K j' ≠ k) ∧ e = ⟨(j : Int), 0, 0, 0, false⟩
theorem LastOf.next (K : Nat → ByteArray) (i : Nat) (k : ByteArray) (e : Tb.En) : ((K i = k ∧ (⟨(i : Int), 0, 0, 0, false⟩ : Tb.En) = e) ∨ (K i ≠ k ∧ LastOf K i k e)) ↔ LastOf K (i + 1) k e := by
  constructor
  · rintro (⟨h1, h2⟩ | ⟨h1, j, h2, h3, h4, h5⟩)
    · exact ⟨i, Nat.lt_succ_self i, h1, fun j' h3 h4 => by omega, h2.symm⟩
    · refine ⟨j, by omega, h3, fun j' h6 h7 => ?_, h5⟩
      rcases Nat.lt_or_eq_of_le (Nat.lt_succ_iff.1 h7) with h8 | rfl
      · exact h4 j' h6 h8
      · exact h1
  · rintro ⟨j, h2, h3, h4, h5⟩
    rcases Nat.lt_or_eq_of_le (Nat.lt_succ_iff.1 h2) with h8 | rfl
    · exact .inr ⟨h4 i h8 (Nat.lt_succ_self i), j, h8, h3, fun j' h6 h7 => h4 j' h6 (by omega), h5⟩
    · exact .inl ⟨h3, h5.symm⟩
/-- Which of the first j keys is the last one that equals key i; i where there is none. -/
def Seek (K : Nat → ByteArray) (i j : Nat) (v : Int) : Prop := (∃ p, p < j ∧ K p = K i ∧ (∀ j', p < j' → j' < j → K j' ≠ K i) ∧ v = (p : Int)) ∨ ((∀ p, p < j → K p ≠ K i) ∧ v = (i : Int))
theorem Seek.zero (K : Nat → ByteArray) (i : Nat) : Seek K i 0 (i : Int) := .inr ⟨fun _ h => absurd h (Nat.not_lt_zero _), rfl⟩
theorem Seek.yes {K : Nat → ByteArray} {i j : Nat} (h : K j = K i) : Seek K i (j + 1) (j : Int) := .inl ⟨j, Nat.lt_succ_self j, h, fun j' h1 h2 => by omega, rfl⟩
theorem Seek.no {K : Nat → ByteArray} {i j : Nat} {v : Int} (hs : Seek K i j v) (h : K j ≠ K i) : Seek K i (j + 1) v := by
  rcases hs with ⟨p, h1, h2, h3, h4⟩ | ⟨h1, h2⟩
  · refine .inl ⟨p, by omega, h2, fun j' h5 h6 => ?_, h4⟩
    rcases Nat.lt_or_eq_of_le (Nat.lt_succ_iff.1 h6) with h7 | rfl
    · exact h3 j' h5 h7
    · exact h
  · refine .inr ⟨fun p h3 => ?_, h2⟩
    rcases Nat.lt_or_eq_of_le (Nat.lt_succ_iff.1 h3) with h7 | rfl
    · exact h1 p h7
    · exact h
theorem Seek.done {K : Nat → ByteArray} {i n : Nat} {v : Int} (hs : Seek K i n v) (hi : i < n) : LastOf K n (K i) ⟨v, 0, 0, 0, false⟩ := by
  rcases hs with ⟨p, h1, h2, h3, rfl⟩ | ⟨h1, _⟩
  · exact ⟨p, h1, h2, h3, rfl⟩
  · exact absurd rfl (h1 i hi)
theorem Tab.congr {M : Nat} {w : World} {S : Nat → Prop} {q : Nat} {H H' : ByteArray → Tb.En → Prop} {c wk : Nat} (h : Tab M w S q H c wk) (e : ∀ k x, H k x ↔ H' k x) : Tab M w S q H' c wk := by
  obtain ⟨v, v', l, b, u, o, bo, uo, nx, h1, h2, h3, h4⟩ := h
  exact ⟨v, v', l, b, u, o, bo, uo, nx, h1, h2, h3, fun k x => (e k x).symm.trans (h4 k x)⟩
/-- A table in a law: its blocks lie from base on. -/
def TSt (M base : Nat) (w : World) (q : Nat) (H : ByteArray → Tb.En → Prop) (n : Nat) : Prop := ∃ S c wk, (∀ k, S k → base ≤ k ∧ k < w.heap.size) ∧ Tab M w S q H c wk ∧ c ≤ n
theorem TSt.next {M base : Nat} {w w' : World} {q : Nat} {H : ByteArray → Tb.En → Prop} {n : Nat} (h : TSt M base w q H n) (hb : Below w.heap.size w w') : TSt M base w' q H n := by
  obtain ⟨S, c, wk, h1, h2, h3⟩ := h
  exact ⟨S, c, wk, fun k hk => ⟨(h1 k hk).1, Nat.lt_of_lt_of_le (h1 k hk).2 hb.size⟩, h2.next hb, h3⟩
theorem TSt.drew {M base : Nat} {w : World} {q : Nat} {H : ByteArray → Tb.En → Prop} {n : Nat} (h : TSt M base w q H n) : TSt M base w.drew q H n := h.next ⟨rfl, rfl, rfl, Nat.le_refl _, fun _ _ => rfl⟩
theorem below_drew1 {B : Nat} {w w' : World} (h : Below B w w') : Below B w w'.drew := ⟨h.os, h.tape, h.output, h.size, h.block⟩
theorem LastOf.one {K : Nat → ByteArray} {n : Nat} {k : ByteArray} {x y : Tb.En} (h : LastOf K n k x) (h' : LastOf K n k y) : x = y := by
  obtain ⟨i, h1, h2, h3, rfl⟩ := h
  obtain ⟨j, k1, k2, k3, rfl⟩ := h'
  rcases Nat.lt_trichotomy i j with h | rfl | h
  · exact absurd k2 (h3 j h k1)
  · rfl
  · exact absurd h2 (k3 i h h1)
theorem keys_found {K : Nat → ByteArray} {n i : Nat} {v a0 a1 a2 a3 : Int} {a4 y : Bool} (h : (y = true ∧ LastOf K n (K i) ⟨a0, a1, a2, a3, a4⟩) ∨ (y = false ∧ Tb.En.mk a0 a1 a2 a3 a4 = Tb.En0 ∧ ∀ x, ¬ LastOf K n (K i) x)) (hl : LastOf K n (K i) ⟨v, 0, 0, 0, false⟩) : y = true ∧ a0 = v := by
  rcases h with ⟨h1, h2⟩ | ⟨_, _, h2⟩
  · have := h2.one hl
    injection this with e
    exact ⟨h1, e⟩
  · exact absurd hl (h2 _)
theorem cutS_at (s : ByteArray) (ms : Nat) (h : ms = min s.size 30) : s.extract 0 ms = cutS s := by rw [h]; rfl
set_option maxHeartbeats 4000000 in
theorem tablekeys_any (A : Option Addr) (n cap : Nat) (l : List ByteArray) (w : World) (hs : SlIs A n cap) (hl : Hid (l.length = n)) (hb : Hid (Arr strS w 0 w.heap.size A l)) :
    Calls Try.prog 5 #[.slice A n cap] w fun e w' => e = .returned (.bool true) ∧ Below w.heap.size w w' := by
  have hcap := hs.2.2
  have hnc := hs.2.1
  have CN := Lib.hid (tnew_any 121 w.heap.size w (Nat.le_refl _))
  obtain ⟨B, hB⟩ : ∃ B, w.heap.size = B := ⟨_, rfl⟩
  obtain ⟨q, hq⟩ : ∃ q, w.heap.size = q := ⟨_, rfl⟩
  rw [hB] at hb
  have HB := Lib.hid hB
  have CN : Hid (Calls Try.prog 8 #[] w fun e w' => e = .returned (.pointer (some ⟨q, 0, none⟩)) ∧ Below B w w' ∧ (∀ k, k = q → B ≤ k ∧ k < w'.heap.size) ∧ Tab 121 w' (fun k => k = q) q (fun _ _ => False) 0 0) := by
    have := CN.out
    rw [hB] at this
    rw [← hq, hB]
    exact this
  rw [hB]
  clear hB hq
  obtain ⟨m, hm⟩ : ∃ m, (n ≤ 20 ∧ m = n) ∨ (20 < n ∧ m = 20) := by
    rcases Nat.lt_or_ge 20 n with h | h
    · exact ⟨20, .inr ⟨h, rfl⟩⟩
    · exact ⟨n, .inl ⟨h, rfl⟩⟩
  have hmn : m ≤ n := by omega
  have hm20 : m ≤ 20 := by omega
  have hmin : min (n : Int) 20 = (m : Int) := by omega
  have hmin2 : (if (20 : Int) < (n : Int) then (20 : Int) else (n : Int)) = (m : Int) := by split <;> omega
  have HM := Lib.hid hm
  clear hm
  go_enter Try.func5, Try.ntmps5
  go_wp2_with fail
  refine CN.out.mono ?_
  rintro e w1 ⟨rfl, hb1, hS1, hT1⟩
  have HB1 := Lib.hid hb1
  have HS1 := Lib.hid hS1
  have HT1 := Lib.hid hT1
  clear hb1 hS1 hT1 CN
  have HZ : Hid (∀ W, Below B w W → B ≤ W.heap.size) := fun W h => HB.out ▸ h.size
  have HM1 : Hid (∀ W W', Below B w W → Below W.heap.size W W' → Below B w W') := fun W W' h h' => h.trans (h'.mono (HZ.out W h))
  generalize hKK : (fun j => cutS (l.getD j ⟨#[]⟩)) = KF
  have HKK := Lib.hid hKK; clear hKK
  have HK1 : Hid (∀ j, cutS (l.getD j ⟨#[]⟩) = KF j) := fun j => by rw [← HKK.out]
  go_wp2_with fail
  go_loopw [19] (fun iv wr => ∃ k : Nat, k ≤ m ∧ iv = .int .i64 (k : Int) ∧ Hid (TSt 121 B wr q (LastOf KF k) k) ∧ Hid (Below B w wr)) (fun i _ => m - (Go.RowKit.intOf i).toNat)
  case atStart => exact ⟨0, Nat.zero_le _, rfl, ⟨_, 0, 0, HS1.out, HT1.out.congr fun k x => ⟨False.elim, fun ⟨j, h, _⟩ => absurd h (Nat.not_lt_zero _)⟩, Nat.le_refl _⟩, HB1.out⟩
  case round =>
    obtain ⟨k, hk, rfl, hst, hbel⟩ := hrel
    by_cases hlt : k < m
    · obtain ⟨ad, rfl⟩ := hb.out.some (k := k) (by rw [hl.out]; omega)
      obtain ⟨s, hss⟩ : ∃ s, l.getD k ⟨#[]⟩ = s := ⟨_, rfl⟩
      have m0 := strs_at (hb.out.below hbel.out (Nat.le_refl _)) k (by rw [hl.out]; omega) s hss
      obtain ⟨ms, hms⟩ : ∃ ms, ms = min s.size 30 := ⟨_, rfl⟩
      have hx := cutS_at s ms hms
      have hmi : min (s.size : Int) 30 = (ms : Int) := by omega
      have hms2 : ms ≤ s.size := by omega
      have HKS : Hid (cutS s = KF k) := by show _ = _; rw [← HK1.out k, hss]
      rw [HKS.out] at hx
      have HSZ : Hid ((KF k).size ≤ 1048576) := by rw [← HKS.out]; exact cutS_size s
      obtain ⟨S2, c2, wk2, hS2, hT2, hC2⟩ := hst.out
      have HC := Lib.hid hC2
      clear hms hss hC2 hst
      go_wp2_with fail
      refine (tset_any 121 B q c2 wk2 (KF k) k 0 0 0 false _ S2 wr (HZ.out _ hbel.out) (by decide) HSZ.out (by have := HC.out; omega) hS2 hT2).mono ?_
      rintro e w4 ⟨rfl, S4, c4, wk4, hn4, hcc, hT4, -⟩
      have HST : Hid (TSt 121 B w4 q (LastOf KF (k + 1)) (k + 1)) := ⟨S4, c4, wk4, hn4.own, hT4.congr (LastOf.next KF k), by
        have := HC.out
        rcases hcc with ⟨_, h⟩ | ⟨_, h⟩ <;> omega⟩
      have HB4 := Lib.hid (hbel.out.trans hn4.below)
      clear hn4 hcc hT4 hT2 hS2
      go_wp2_with fail
      go_roundw
      case rel => exact ⟨k + 1, by omega, by go_num, HST, HB4⟩
      case measure => simp [Go.RowKit.intOf]; omega
    · have hkm : k = m := by omega
      subst hkm
      clear hlt
      go_wp2_with fail
      go_loopw [36] (fun iv wr => ∃ i : Nat, i ≤ k ∧ iv = .int .i64 (i : Int) ∧ Hid (TSt 121 B wr q (LastOf KF k) k) ∧ Hid (Below B w wr)) (fun i _ => k - (Go.RowKit.intOf i).toNat)
      case atStart => exact ⟨0, Nat.zero_le _, rfl, hst, hbel⟩
      case round =>
        clear hst hbel
        obtain ⟨i, hi, rfl, hst, hbel⟩ := hrel
        by_cases hlt : i < k
        · go_wp2_with fail
          go_loopw [7, 42] (fun lv jv wr => ∃ j : Nat, j ≤ k ∧ jv = .int .i64 (j : Int) ∧ (∃ v : Int, lv = .int .i64 v ∧ Hid (Seek KF i j v)) ∧ Hid (TSt 121 B wr q (LastOf KF k) k) ∧ Hid (Below B w wr)) (fun _ j _ => k - (Go.RowKit.intOf j).toNat)
          case atStart => exact ⟨0, Nat.zero_le _, rfl, ⟨_, rfl, Seek.zero KF i⟩, hst, hbel⟩
          case round =>
            clear hst hbel
            obtain ⟨j, hj, rfl, ⟨v, rfl, hsk⟩, hst, hbel⟩ := hrel
            obtain ⟨ad, rfl⟩ := hb.out.some (k := i) (by rw [hl.out]; omega)
            obtain ⟨s, hss⟩ : ∃ s, l.getD i ⟨#[]⟩ = s := ⟨_, rfl⟩
            have m0 := strs_at (hb.out.below hbel.out (Nat.le_refl _)) i (by rw [hl.out]; omega) s hss
            obtain ⟨ms, hms⟩ : ∃ ms, ms = min s.size 30 := ⟨_, rfl⟩
            have hx := cutS_at s ms hms
            have hmi : min (s.size : Int) 30 = (ms : Int) := by omega
            have hms2 : ms ≤ s.size := by omega
            have HKS : Hid (cutS s = KF i) := by show _ = _; rw [← HK1.out i, hss]
            rw [HKS.out] at hx
            have HSS := Lib.hid hss
            clear hms hss
            by_cases hlt2 : j < k
            · obtain ⟨s', hss'⟩ : ∃ s, l.getD j ⟨#[]⟩ = s := ⟨_, rfl⟩
              have m0' := strs_at (hb.out.below hbel.out (Nat.le_refl _)) j (by rw [hl.out]; omega) s' hss'
              obtain ⟨ms', hms'⟩ : ∃ ms, ms = min s'.size 30 := ⟨_, rfl⟩
              have hx' := cutS_at s' ms' hms'
              have hmi' : min (s'.size : Int) 30 = (ms' : Int) := by omega
              have hms2' : ms' ≤ s'.size := by omega
              have HKS' : Hid (cutS s' = KF j) := by show _ = _; rw [← HK1.out j, hss']
              rw [HKS'.out] at hx'
              clear hms' hss'
              have HB4 := Lib.hid (below_drew1 hbel.out)
              have HST := Lib.hid hst.out.drew
              by_cases hkk : KF j = KF i
              · have hkt : ((KF j).toList == (KF i).toList) = true := by rw [key_eq]; exact decide_eq_true hkk
                have HSK := Lib.hid (Seek.yes hkk)
                clear hkk
                go_upto_region 15 with fail
                go_region
                go_wp2_with fail
                go_roundw
                case rel => exact ⟨j + 1, by omega, by go_num, ⟨_, rfl, HSK⟩, HST, HB4⟩
                case measure => simp [Go.RowKit.intOf]; omega
              · have hkt : ((KF j).toList == (KF i).toList) = false := by rw [key_eq]; exact decide_eq_false hkk
                have HSK := Lib.hid (hsk.out.no hkk)
                clear hkk
                go_upto_region 15 with fail
                go_region
                go_wp2_with fail
                go_roundw
                case rel => exact ⟨j + 1, by omega, by go_num, ⟨_, rfl, HSK⟩, HST, HB4⟩
                case measure => simp [Go.RowKit.intOf]; omega
            · have hjk : j = k := by omega
              subst hjk
              have HL := Lib.hid (hsk.out.done hlt)
              obtain ⟨S2, c2, wk2, hS2, hT2, hC2⟩ := hst.out
              have HSZ : Hid ((KF i).size ≤ 1048576) := by rw [← HKS.out]; exact cutS_size s
              have HS2 := Lib.hid hS2
              have HT2 := Lib.hid hT2
              have HC := Lib.hid hC2
              clear hst hS2 hT2 hC2 hlt2 hsk
              have HC18 : Hid (∀ W, Below B w W → W.cell? (ad.add i) = some (.string s)) := fun W hB => strs_at (hb.out.below hB (Nat.le_refl _)) i (by rw [hl.out]; omega) s HSS.out
              have HBa : Hid (Below B w wr.drew) := below_drew1 hbel.out
              have HSa : Hid (∀ k, S2 k → B ≤ k ∧ k < wr.drew.heap.size) := HS2.out
              have HTa : Hid (Tab 121 wr.drew S2 q (LastOf KF j) c2 wk2) := HT2.out.next ⟨rfl, rfl, rfl, Nat.le_refl _, fun _ _ => rfl⟩
              clear m0 HS2 HT2
              go_upto_region 18 with fail
              refine wp_region_held_drew (S := fun W => W.cell? (ad.add i) = some (.string s)) (by kernel_rfl) (HC18.out _ HBa.out) (fun hH => ?_)
              change wpAnyH _ _ _ _ _ 19 #[false, false, false, false, false, false, false, false, false, false, false, false, false, false, false, false, false, false, false] _ _
              clear hH
              generalize wr.drew = wa at *
              refine held_take (i := 0) (v := ?_) (d := some 71) rfl rfl (by kernel_rfl) (by kernel_rfl) (by kernel_rfl) (fun _ _ _ h => h) (HC18.out _ HBa.out) ⟨?_, fun w hSw => ?_⟩ ?_
              rotate_left 1
              · rfl
              · (go_simp; all_goals with_reducible rfl)
              simp only [Act.put, List.setIfInBounds_toArray, List.set_cons_zero, List.set_cons_succ]
              refine held_take (i := 1) (v := ?_) (d := some 72) rfl rfl (by kernel_rfl) (by kernel_rfl) (by kernel_rfl) (fun _ _ _ h => h) (HC18.out _ HBa.out) ⟨?_, fun w hSw => ?_⟩ ?_
              rotate_left 1
              · rfl
              · (go_simp; all_goals with_reducible rfl)
              simp only [Act.put, List.setIfInBounds_toArray, List.set_cons_zero, List.set_cons_succ]
              refine held_take (i := 2) (v := ?_) (d := some 73) rfl rfl (by kernel_rfl) (by kernel_rfl) (by kernel_rfl) (fun _ _ _ h => h) (HC18.out _ HBa.out) ⟨?_, fun w hSw => ?_⟩ ?_
              rotate_left 1
              · rfl
              · (go_simp; all_goals with_reducible rfl)
              simp only [Act.put, List.setIfInBounds_toArray, List.set_cons_zero, List.set_cons_succ]
              refine held_take (i := 3) (v := ?_) (d := some 74) rfl rfl (by kernel_rfl) (by kernel_rfl) (by kernel_rfl) (fun _ _ _ h => h) (HC18.out _ HBa.out) ⟨?_, fun w hSw => ?_⟩ ?_
              rotate_left 1
              · rfl
              · have y1 := hSw
                (go_simp; all_goals with_reducible rfl)
              simp only [Act.put, List.setIfInBounds_toArray, List.set_cons_zero, List.set_cons_succ]
              refine held_take (i := 4) (v := ?_) (d := some 75) rfl rfl (by kernel_rfl) (by kernel_rfl) (by kernel_rfl) (fun _ _ _ h => h) (HC18.out _ HBa.out) ⟨?_, fun w hSw => ?_⟩ ?_
              rotate_left 1
              · rfl
              · have y1 := hSw
                (go_simp; all_goals with_reducible rfl)
              simp only [Act.put, List.setIfInBounds_toArray, List.set_cons_zero, List.set_cons_succ]
              refine held_take (i := 5) (v := ?_) (d := some 76) rfl rfl (by kernel_rfl) (by kernel_rfl) (by kernel_rfl) (fun _ _ _ h => h) (HC18.out _ HBa.out) ⟨?_, fun w hSw => ?_⟩ ?_
              rotate_left 1
              · rfl
              · (go_simp; all_goals with_reducible rfl)
              simp only [Act.put, List.setIfInBounds_toArray, List.set_cons_zero, List.set_cons_succ]
              refine held_take (i := 6) (v := ?_) (d := some 77) rfl rfl (by kernel_rfl) (by kernel_rfl) (by kernel_rfl) (fun _ _ _ h => h) (HC18.out _ HBa.out) ⟨?_, fun w hSw => ?_⟩ ?_
              rotate_left 1
              · rfl
              · (go_simp; all_goals with_reducible rfl)
              simp only [Act.put, List.setIfInBounds_toArray, List.set_cons_zero, List.set_cons_succ]
              refine held_take (i := 7) (v := ?_) (d := some 78) rfl rfl (by kernel_rfl) (by kernel_rfl) (by kernel_rfl) (fun _ _ _ h => h) (HC18.out _ HBa.out) ⟨?_, fun w hSw => ?_⟩ ?_
              rotate_left 1
              · rfl
              · have y1 := hSw
                (go_simp; all_goals with_reducible rfl)
              simp only [Act.put, List.setIfInBounds_toArray, List.set_cons_zero, List.set_cons_succ]
              refine held_take (i := 8) (v := ?_) (d := some 79) rfl rfl (by kernel_rfl) (by kernel_rfl) (by kernel_rfl) (fun _ _ _ h => h) (HC18.out _ HBa.out) ⟨?_, fun w hSw => ?_⟩ ?_
              rotate_left 1
              · rfl
              · have y1 := hSw
                (go_simp; all_goals with_reducible rfl)
              simp only [Act.put, List.setIfInBounds_toArray, List.set_cons_zero, List.set_cons_succ]
              refine held_take (i := 9) (v := ?_) (d := some 80) rfl rfl (by kernel_rfl) (by kernel_rfl) (by kernel_rfl) (fun _ _ _ h => h) (HC18.out _ HBa.out) ⟨?_, fun w hSw => ?_⟩ ?_
              rotate_left 1
              · rfl
              · (go_simp; all_goals with_reducible rfl)
              simp only [Act.put, List.setIfInBounds_toArray, List.set_cons_zero, List.set_cons_succ]
              refine held_take (i := 10) (v := ?_) (d := some 81) rfl rfl (by kernel_rfl) (by kernel_rfl) (by kernel_rfl) (fun _ _ _ h => h) (HC18.out _ HBa.out) ⟨?_, fun w hSw => ?_⟩ ?_
              rotate_left 1
              · rfl
              · (go_simp; all_goals with_reducible rfl)
              simp only [Act.put, List.setIfInBounds_toArray, List.set_cons_zero, List.set_cons_succ]
              refine held_take (i := 11) (v := ?_) (d := some 82) rfl rfl (by kernel_rfl) (by kernel_rfl) (by kernel_rfl) (fun _ _ _ h => h) (HC18.out _ HBa.out) ⟨?_, fun w hSw => ?_⟩ ?_
              rotate_left 1
              · rfl
              · (go_simp; all_goals with_reducible rfl)
              simp only [Act.put, List.setIfInBounds_toArray, List.set_cons_zero, List.set_cons_succ]
              refine hold_two (i := 12) (j := 16) rfl rfl (by kernel_rfl) (by rfl) (by rfl) (fun K hK => ?_) (fun K hK => ?_)
              · go_simp
                refine (tget_any 121 B q c2 wk2 (KF i) _ S2 wa (HZ.out _ HBa.out) (by decide) HSZ.out HSa.out HTa.out).mono ?_
                rintro e w1x ⟨a0, a1, a2, a3, a4, y, rfl, hxy, hn1, wk1, hT1, -⟩
                obtain ⟨rfl, rfl⟩ := keys_found hxy HL.out
                have HB1 := Lib.hid (HBa.out.trans hn1.below)
                have HS1 := Lib.hid hn1.own
                have HT1 := Lib.hid hT1
                clear hn1 hT1 hxy
                refine hK _ _ (HC18.out _ HB1.out) ?_
                clear hK K
                simp only [List.setIfInBounds_toArray, List.set_cons_zero, List.set_cons_succ]
                refine held_take (i := 13) (v := ?_) (d := some 70) rfl rfl (by kernel_rfl) (by kernel_rfl) (by kernel_rfl) (fun _ _ _ h => h) (HC18.out _ HB1.out) ⟨?_, fun w hSw => ?_⟩ ?_
                rotate_left 1
                · rfl
                · (go_simp; all_goals with_reducible rfl)
                simp only [Act.put, List.setIfInBounds_toArray, List.set_cons_zero, List.set_cons_succ]
                refine held_take (i := 14) (v := ?_) (d := some 84) rfl rfl (by kernel_rfl) (by kernel_rfl) (by kernel_rfl) (fun _ _ _ h => h) (HC18.out _ HB1.out) ⟨?_, fun w hSw => ?_⟩ ?_
                rotate_left 1
                · rfl
                · (go_simp; all_goals with_reducible rfl)
                simp only [Act.put, List.setIfInBounds_toArray, List.set_cons_zero, List.set_cons_succ]
                refine held_take (i := 15) (v := ?_) (d := some 85) rfl rfl (by kernel_rfl) (by kernel_rfl) (by kernel_rfl) (fun _ _ _ h => h) (HC18.out _ HB1.out) ⟨?_, fun w hSw => ?_⟩ ?_
                rotate_left 1
                · rfl
                · (go_simp; all_goals with_reducible rfl)
                simp only [Act.put, List.setIfInBounds_toArray, List.set_cons_zero, List.set_cons_succ]
                refine held_step (i := 16) rfl (by kernel_rfl) ?_ (fun K hK => ?_)
                · rfl
                go_simp
                have HL2 : Hid (Below w1x.heap.size w1x (w1x.alloc (.cells #[.int .i64 0, .int .i64 0, .int .i64 0, .int .i64 0, .bool false] 30))) := (Below.refl _ _).alloc (Nat.le_refl _) _
                have HB2 := Lib.hid (HM1.out _ _ HB1.out HL2.out)
                have HX2 := Lib.hid (heap_alloc_new w1x (.cells #[.int .i64 0, .int .i64 0, .int .i64 0, .int .i64 0, .bool false] 30))
                have HQ2 : Hid (B ≤ w1x.heap.size) := HZ.out _ HB1.out
                have HN2 : Hid (¬ S2 w1x.heap.size) := fun h => Nat.lt_irrefl _ (HS1.out _ h).2
                have HS2 : Hid (∀ k, S2 k → B ≤ k ∧ k < (w1x.alloc (.cells #[.int .i64 0, .int .i64 0, .int .i64 0, .int .i64 0, .bool false] 30)).heap.size) := fun k h => ⟨(HS1.out k h).1, Nat.lt_of_lt_of_le (HS1.out k h).2 HL2.out.size⟩
                have HT2 := Lib.hid (HT1.out.next HL2.out)
                clear HL2
                generalize w1x.alloc (.cells #[.int .i64 0, .int .i64 0, .int .i64 0, .int .i64 0, .bool false] 30) = w2x at *
                generalize w1x.heap.size = q2 at *
                refine hK _ _ (HC18.out _ HB2.out) ?_
                clear hK K
                simp only [List.setIfInBounds_toArray, List.set_cons_zero, List.set_cons_succ]
                refine held_step (i := 17) rfl (by kernel_rfl) ?_ (fun K hK => ?_)
                · rfl
                obtain ⟨z0, z1, z2, z3, z4⟩ := five_cells HX2.out
                obtain ⟨g0, g1, g2, g3, g4⟩ := five_frozen HX2.out
                go_simp
                have HK3 : Hid (Kept (fun k => k = q2) w2x (((((w2x.setCell ⟨q2, 0, none⟩ (.int .i64 a0)).setCell ⟨q2, 1, none⟩ (.int .i64 a1)).setCell ⟨q2, 2, none⟩ (.int .i64 a2)).setCell ⟨q2, 3, none⟩ (.int .i64 a3)).setCell ⟨q2, 4, none⟩ (.bool a4))) := five_zero w2x q2 _ _ _ _ _ rfl
                have HX3 : Hid ((((((w2x.setCell ⟨q2, 0, none⟩ (.int .i64 a0)).setCell ⟨q2, 1, none⟩ (.int .i64 a1)).setCell ⟨q2, 2, none⟩ (.int .i64 a2)).setCell ⟨q2, 3, none⟩ (.int .i64 a3)).setCell ⟨q2, 4, none⟩ (.bool a4)).heap[q2]? = some (.cells #[.int .i64 a0, .int .i64 a1, .int .i64 a2, .int .i64 a3, .bool a4] 30 (0, 0))) := stored5 HX2.out
                have HB3 : Hid (Below B w (((((w2x.setCell ⟨q2, 0, none⟩ (.int .i64 a0)).setCell ⟨q2, 1, none⟩ (.int .i64 a1)).setCell ⟨q2, 2, none⟩ (.int .i64 a2)).setCell ⟨q2, 3, none⟩ (.int .i64 a3)).setCell ⟨q2, 4, none⟩ (.bool a4))) := HB2.out.trans (HK3.out.below (HZ.out _ HB2.out) fun k e => e ▸ HQ2.out)
                have HT3 : Hid (Tab 121 (((((w2x.setCell ⟨q2, 0, none⟩ (.int .i64 a0)).setCell ⟨q2, 1, none⟩ (.int .i64 a1)).setCell ⟨q2, 2, none⟩ (.int .i64 a2)).setCell ⟨q2, 3, none⟩ (.int .i64 a3)).setCell ⟨q2, 4, none⟩ (.bool a4)) S2 q _ c2 _) := HT2.out.kept HK3.out fun k h e => HN2.out (e ▸ h)
                have HS3 : Hid (∀ k, S2 k → B ≤ k ∧ k < (((((w2x.setCell ⟨q2, 0, none⟩ (.int .i64 a0)).setCell ⟨q2, 1, none⟩ (.int .i64 a1)).setCell ⟨q2, 2, none⟩ (.int .i64 a2)).setCell ⟨q2, 3, none⟩ (.int .i64 a3)).setCell ⟨q2, 4, none⟩ (.bool a4)).heap.size) := fun k h => ⟨(HS2.out k h).1, Nat.lt_of_lt_of_le (HS2.out k h).2 HK3.out.size⟩
                clear HK3 z0 z1 z2 z3 z4 g0 g1 g2 g3 g4
                generalize (((((w2x.setCell ⟨q2, 0, none⟩ (.int .i64 a0)).setCell ⟨q2, 1, none⟩ (.int .i64 a1)).setCell ⟨q2, 2, none⟩ (.int .i64 a2)).setCell ⟨q2, 3, none⟩ (.int .i64 a3)).setCell ⟨q2, 4, none⟩ (.bool a4)) = w3x at *
                refine hK _ _ (HC18.out _ HB3.out) ?_
                clear hK K
                simp only [List.setIfInBounds_toArray, List.set_cons_zero, List.set_cons_succ]
                refine held_take (i := 18) (v := ?_) (d := some 10) rfl rfl (by kernel_rfl) (by kernel_rfl) (by kernel_rfl) (fun _ _ _ h => h) (HC18.out _ HB3.out) ⟨?_, fun w hSw => ?_⟩ ?_
                rotate_left 1
                · rfl
                · (go_simp; all_goals with_reducible rfl)
                simp only [Act.put, List.setIfInBounds_toArray, List.set_cons_zero, List.set_cons_succ]
                refine wpAnyH_done (by kernel_rfl) ?_ _
                obtain ⟨z0, z1, z2, z3, z4⟩ := five_cells HX3.out
                have HST : Hid (TSt 121 B w3x q (LastOf KF j) j) := ⟨S2, c2, _, HS3.out, HT3.out, HC.out⟩
                have HBT := HB3
                go_wp2_with fail
                go_roundw
                case rel => exact ⟨i + 1, by omega, by go_num, HST, HBT⟩
                case measure => simp [Go.RowKit.intOf]; omega
              · go_simp
                have HL4 : Hid (Below wa.heap.size wa (wa.alloc (.cells #[.int .i64 0, .int .i64 0, .int .i64 0, .int .i64 0, .bool false] 30))) := (Below.refl _ _).alloc (Nat.le_refl _) _
                have HB4 := Lib.hid (HM1.out _ _ HBa.out HL4.out)
                have HX4 := Lib.hid (heap_alloc_new wa (.cells #[.int .i64 0, .int .i64 0, .int .i64 0, .int .i64 0, .bool false] 30))
                have HQ4 : Hid (B ≤ wa.heap.size) := HZ.out _ HBa.out
                have HN4 : Hid (¬ S2 wa.heap.size) := fun h => Nat.lt_irrefl _ (HSa.out _ h).2
                have HS4 : Hid (∀ k, S2 k → B ≤ k ∧ k < (wa.alloc (.cells #[.int .i64 0, .int .i64 0, .int .i64 0, .int .i64 0, .bool false] 30)).heap.size) := fun k h => ⟨(HSa.out k h).1, Nat.lt_of_lt_of_le (HSa.out k h).2 HL4.out.size⟩
                have HT4 := Lib.hid (HTa.out.next HL4.out)
                clear HL4
                generalize wa.alloc (.cells #[.int .i64 0, .int .i64 0, .int .i64 0, .int .i64 0, .bool false] 30) = w4x at *
                generalize wa.heap.size = q4 at *
                refine hK _ _ (HC18.out _ HB4.out) ?_
                clear hK K
                simp only [List.setIfInBounds_toArray, List.set_cons_zero, List.set_cons_succ]
                refine held_step (i := 12) rfl (by kernel_rfl) ?_ (fun K hK => ?_)
                · rfl
                go_simp
                refine (tget_any 121 B q c2 wk2 (KF i) _ S2 w4x (HZ.out _ HB4.out) (by decide) HSZ.out HS4.out HT4.out).mono ?_
                rintro e w5x ⟨a0, a1, a2, a3, a4, y, rfl, hxy, hn5, wk5, hT5, -⟩
                obtain ⟨rfl, rfl⟩ := keys_found hxy HL.out
                have HB5 := Lib.hid (HB4.out.trans hn5.below)
                have HS5 := Lib.hid hn5.own
                have HT5 := Lib.hid hT5
                have HX5 := Lib.hid (hn5.box HX4.out HN4.out).1
                clear hn5 hT5 hxy
                refine hK _ _ (HC18.out _ HB5.out) ?_
                clear hK K
                simp only [List.setIfInBounds_toArray, List.set_cons_zero, List.set_cons_succ]
                refine held_take (i := 13) (v := ?_) (d := some 70) rfl rfl (by kernel_rfl) (by kernel_rfl) (by kernel_rfl) (fun _ _ _ h => h) (HC18.out _ HB5.out) ⟨?_, fun w hSw => ?_⟩ ?_
                rotate_left 1
                · rfl
                · (go_simp; all_goals with_reducible rfl)
                simp only [Act.put, List.setIfInBounds_toArray, List.set_cons_zero, List.set_cons_succ]
                refine held_take (i := 14) (v := ?_) (d := some 84) rfl rfl (by kernel_rfl) (by kernel_rfl) (by kernel_rfl) (fun _ _ _ h => h) (HC18.out _ HB5.out) ⟨?_, fun w hSw => ?_⟩ ?_
                rotate_left 1
                · rfl
                · (go_simp; all_goals with_reducible rfl)
                simp only [Act.put, List.setIfInBounds_toArray, List.set_cons_zero, List.set_cons_succ]
                refine held_take (i := 15) (v := ?_) (d := some 85) rfl rfl (by kernel_rfl) (by kernel_rfl) (by kernel_rfl) (fun _ _ _ h => h) (HC18.out _ HB5.out) ⟨?_, fun w hSw => ?_⟩ ?_
                rotate_left 1
                · rfl
                · (go_simp; all_goals with_reducible rfl)
                simp only [Act.put, List.setIfInBounds_toArray, List.set_cons_zero, List.set_cons_succ]
                refine held_step (i := 17) rfl (by kernel_rfl) ?_ (fun K hK => ?_)
                · rfl
                obtain ⟨z0, z1, z2, z3, z4⟩ := five_cells HX5.out
                obtain ⟨g0, g1, g2, g3, g4⟩ := five_frozen HX5.out
                go_simp
                have HK6 : Hid (Kept (fun k => k = q4) w5x (((((w5x.setCell ⟨q4, 0, none⟩ (.int .i64 a0)).setCell ⟨q4, 1, none⟩ (.int .i64 a1)).setCell ⟨q4, 2, none⟩ (.int .i64 a2)).setCell ⟨q4, 3, none⟩ (.int .i64 a3)).setCell ⟨q4, 4, none⟩ (.bool a4))) := five_zero w5x q4 _ _ _ _ _ rfl
                have HX6 : Hid ((((((w5x.setCell ⟨q4, 0, none⟩ (.int .i64 a0)).setCell ⟨q4, 1, none⟩ (.int .i64 a1)).setCell ⟨q4, 2, none⟩ (.int .i64 a2)).setCell ⟨q4, 3, none⟩ (.int .i64 a3)).setCell ⟨q4, 4, none⟩ (.bool a4)).heap[q4]? = some (.cells #[.int .i64 a0, .int .i64 a1, .int .i64 a2, .int .i64 a3, .bool a4] 30 (0, 0))) := stored5 HX5.out
                have HB6 : Hid (Below B w (((((w5x.setCell ⟨q4, 0, none⟩ (.int .i64 a0)).setCell ⟨q4, 1, none⟩ (.int .i64 a1)).setCell ⟨q4, 2, none⟩ (.int .i64 a2)).setCell ⟨q4, 3, none⟩ (.int .i64 a3)).setCell ⟨q4, 4, none⟩ (.bool a4))) := HB5.out.trans (HK6.out.below (HZ.out _ HB5.out) fun k e => e ▸ HQ4.out)
                have HT6 : Hid (Tab 121 (((((w5x.setCell ⟨q4, 0, none⟩ (.int .i64 a0)).setCell ⟨q4, 1, none⟩ (.int .i64 a1)).setCell ⟨q4, 2, none⟩ (.int .i64 a2)).setCell ⟨q4, 3, none⟩ (.int .i64 a3)).setCell ⟨q4, 4, none⟩ (.bool a4)) S2 q _ c2 _) := HT5.out.kept HK6.out fun k h e => HN4.out (e ▸ h)
                have HS6 : Hid (∀ k, S2 k → B ≤ k ∧ k < (((((w5x.setCell ⟨q4, 0, none⟩ (.int .i64 a0)).setCell ⟨q4, 1, none⟩ (.int .i64 a1)).setCell ⟨q4, 2, none⟩ (.int .i64 a2)).setCell ⟨q4, 3, none⟩ (.int .i64 a3)).setCell ⟨q4, 4, none⟩ (.bool a4)).heap.size) := fun k h => ⟨(HS5.out k h).1, Nat.lt_of_lt_of_le (HS5.out k h).2 HK6.out.size⟩
                clear HK6 z0 z1 z2 z3 z4 g0 g1 g2 g3 g4
                generalize (((((w5x.setCell ⟨q4, 0, none⟩ (.int .i64 a0)).setCell ⟨q4, 1, none⟩ (.int .i64 a1)).setCell ⟨q4, 2, none⟩ (.int .i64 a2)).setCell ⟨q4, 3, none⟩ (.int .i64 a3)).setCell ⟨q4, 4, none⟩ (.bool a4)) = w6x at *
                refine hK _ _ (HC18.out _ HB6.out) ?_
                clear hK K
                simp only [List.setIfInBounds_toArray, List.set_cons_zero, List.set_cons_succ]
                refine held_take (i := 18) (v := ?_) (d := some 10) rfl rfl (by kernel_rfl) (by kernel_rfl) (by kernel_rfl) (fun _ _ _ h => h) (HC18.out _ HB6.out) ⟨?_, fun w hSw => ?_⟩ ?_
                rotate_left 1
                · rfl
                · (go_simp; all_goals with_reducible rfl)
                simp only [Act.put, List.setIfInBounds_toArray, List.set_cons_zero, List.set_cons_succ]
                refine wpAnyH_done (by kernel_rfl) ?_ _
                obtain ⟨z0, z1, z2, z3, z4⟩ := five_cells HX6.out
                have HST : Hid (TSt 121 B w6x q (LastOf KF j) j) := ⟨S2, c2, _, HS6.out, HT6.out, HC.out⟩
                have HBT := HB6
                go_wp2_with fail
                go_roundw
                case rel => exact ⟨i + 1, by omega, by go_num, HST, HBT⟩
                case measure => simp [Go.RowKit.intOf]; omega
        · have hik : i = k := by omega
          subst hik
          go_wp2_with fail
          refine (tbawake_any wr).mono ?_
          rintro e w3 ⟨rfl, hb3⟩
          have HB3 := Lib.hid (HM1.out _ _ hbel.out hb3)
          clear hb3
          go_wp2_with fail
          go_ret
          exact ⟨rfl, HB3.out⟩
end Go.Proofs.Ytflnjippknpflaa
