/-
  The walk of flashdev's survivors.
-/
import Derived.Test.YtfacinlpkblopaaFlashKeep
import Derived.Test.YtfacinlpkblopaaPairs0
namespace Go.Proofs.Ytfacinlpkblopaa
open Go.RowKit Go.Maps
set_option maxHeartbeats 1000000 in
theorem survivors_any (d : Nat) (hd : d ≤ 1048576) (Ak At : Option Addr) (nk ck nt ct : Nat) (keep : List Bool) (T : List (Int × Int)) (w : World)
    (hnt : nt ≤ 9223372036854775807) (hlk : Hid (keep.length = nk)) (hlt : Hid (T.length = nt)) (hbk : Hid (Bls w w.heap.size Ak keep)) (hbt : Hid (Trs w w.heap.size At T)) :
    Calls Try.prog 40 #[.int .i64 (d : Int), .slice Ak nk ck, .slice At nt ct] w (Survived w d keep T) := by
  obtain ⟨i0, hi0, hz0, hz1, hz2⟩ := info_parts info_int
  have I0 := Lib.hid (And.intro hi0 (And.intro hz0 (And.intro hz1 hz2))); clear hi0 hz0 hz1 hz2
  have B0 : Hid (i0.bytes * d ≤ 281474976710656 ∧ d ≤ maxLen) := by rw [I0.out.2.2.2]; exact ⟨by omega, by unfold maxLen; omega⟩
  obtain ⟨mn, hmd, hmk, hme, hmin⟩ : ∃ mn : Nat, mn ≤ d ∧ mn ≤ nk ∧ Hid (mn = d ∨ keep.length ≤ mn) ∧ Hid ((if (nk : Int) < (d : Int) then (nk : Int) else (d : Int)) = (mn : Int)) := by
    by_cases h : (nk : Int) < (d : Int)
    · exact ⟨nk, by omega, Nat.le_refl _, .inr (by rw [hlk.out]; exact Nat.le_refl _), if_pos h⟩
    · exact ⟨d, Nat.le_refl _, by omega, .inl rfl, if_neg h⟩
  go_enter Try.func40, Try.ntmps40
  go_wp2_with (first
    | (with_reducible refine wpList_min2 rfl (.tmp 13) (.tmp 15) _ rfl .i64 _ _ _ rfl rfl hmin.out ?_)
    | (at_make; refine wpList_make_full w rfl _ _ 61 rfl w.heap.size 3 i0 (.int .i64 0) 1 Try.underlying61 I0.out.1 I0.out.2.1 I0.out.2.2.1 .i64 .i64 _ _ d rfl rfl rfl rfl B0.out.1 B0.out.2 (Nat.le_refl _) ?_; intro w1 hown hg1))
  have HR1 : Hid (IRow w1 w.heap.size (List.replicate d 0) ∧ Below w.heap.size w w1) := by
    refine ⟨?_, (Below.refl _ w).grown hg1 (Nat.le_refl _) (fun k e => by cases e)⟩
    rw [made_ivals] at hown
    rcases hown.2 with ⟨h, _⟩ | ⟨g, cap, cur, e, _, hgg, _, _, hsz, htk⟩
    · cases h
    · injection e with e1 e2 e3
      injection e1 with e1
      injection e1 with e1
      subst e1
      unfold IRow
      rw [hgg]
      have : cur.toList = ivals (List.replicate d 0) := by rw [← htk, List.take_of_length_le (by rw [Array.length_toList]; omega)]
      rw [← this]
  clear hown hg1
  clear hmin
  go_loopw [17] (fun iv wr => ∃ (k : Nat) (L : List Nat), k ≤ mn ∧ iv = .int .i64 (k : Int) ∧ Hid (IRow wr w.heap.size L) ∧ Hid (Laid1 keep d k L) ∧ Hid (Below w.heap.size w wr)) (fun iv _ => mn - (RowKit.intOf iv).toNat)
  case atStart => exact ⟨0, _, Nat.zero_le _, rfl, HR1.out.1, laid1_start keep d, HR1.out.2⟩
  case round =>
    obtain ⟨k, L, hk, rfl, hrow, hlaid, hbel⟩ := hrel
    by_cases hkm : k < mn
    · obtain ⟨ad, rfl, hadb, hcell⟩ := hbk.out.below hbel.out (Nat.le_refl _) k (by rw [hlk.out]; omega)
      obtain ⟨hc7, hf7⟩ := hrow.out.cell (j := k) (by rw [hlaid.out.1]; omega)
      cases hb : keep.getD k false with
      | true =>
        rw [hb] at hcell
        have HB1 := Lib.hid hb; clear hb
        go_wp2
        go_roundw
        case rel => exact ⟨k + 1, L.set k 64, by omega, by go_num, hrow.out.set k 64, laid1_yes hlaid.out (by omega) HB1.out, hbel.out.setCell (Nat.le_refl _) _⟩
        case measure => simp [RowKit.intOf]; omega
      | false =>
        rw [hb] at hcell
        have HB1 := Lib.hid hb; clear hb
        go_wp2
        go_roundw
        case rel => exact ⟨k + 1, L, by omega, by go_num, hrow, laid1_no hlaid.out HB1.out, hbel⟩
        case measure => simp [RowKit.intOf]; omega
    · go_wp2
      obtain rfl : k = mn := by omega
      have HL2 : Hid (Laid2 keep T d 0 L) := laid2_start hlaid.out hme.out
      clear hkm hlaid
      go_loopw [30] (fun iv wr2 => ∃ (k2 : Nat) (L2 : List Nat), k2 ≤ nt ∧ iv = .int .i64 (k2 : Int) ∧ Hid (IRow wr2 w.heap.size L2) ∧ Hid (Laid2 keep T d k2 L2) ∧ Hid (Below w.heap.size w wr2)) (fun iv _ => nt - (RowKit.intOf iv).toNat)
      case atStart => exact ⟨0, L, Nat.zero_le _, rfl, hrow, HL2, hbel⟩
      case round =>
        clear hrow HL2 hbel
        obtain ⟨k2, L2, hk2, rfl, hrow, hlaid, hbel⟩ := hrel
        by_cases hlt2 : k2 < nt
        · obtain ⟨ad, rfl, hadb, hc0, hc1⟩ := hbt.out.below hbel.out (Nat.le_refl _) k2 (by rw [hlt.out]; omega)
          rw [next_field] at hc1
          generalize ht : T.getD k2 (0, 0) = t at hc0 hc1
          have HT := Lib.hid ht; clear ht
          obtain ⟨K, N⟩ := t
          have hG : w.heap.size < wr.heap.size := (Array.getElem?_eq_some_iff.1 hrow.out).1
          have HAL : Hid (∀ o, IRow (wr.alloc o) w.heap.size L2 ∧ Below w.heap.size w (wr.alloc o)) := fun o => ⟨(Below.heap_alloc wr o _ hG).trans hrow.out, hbel.out.alloc hbel.out.size o⟩
          have HL : Hid (L2.length = d) := hlaid.out.1
          by_cases a1 : 0 ≤ K
          · by_cases a2 : K < (d : Int)
            · obtain ⟨j, rfl⟩ : ∃ j : Nat, K = (j : Int) := ⟨K.toNat, by omega⟩
              have hj : j < d := by omega
              obtain ⟨hc7, hf7⟩ := hrow.out.cell (j := j) (by rw [HL.out]; exact hj)
              by_cases a3 : 1 ≤ N ∧ N < 64
              · obtain ⟨a3, a4⟩ := a3
                obtain ⟨N, rfl⟩ : ∃ n : Nat, N = (n : Int) := ⟨N.toNat, by omega⟩
                generalize hx : L2.getD j 0 = x at hc7
                have HX := Lib.hid hx; clear hx
                by_cases a5 : 1 ≤ x ∧ x < 64
                · obtain ⟨a5, a6⟩ := a5
                  go_wp2_with (go_at_call 46; refine (ispart_yes _ (by omega) (by omega) _).mono ?_; rintro e w' ⟨rfl, rfl⟩)
                  go_roundw
                  case rel =>
                    refine ⟨k2 + 1, L2, by omega, by go_num, (HAL.out _).1, laid2_no hlaid.out (by rw [hlt.out]; omega) HT.out (fun i _ h => ?_), (HAL.out _).2⟩
                    have hi : (j : Int) = (i : Int) := by simp [tearHits] at h; exact h.1
                    obtain rfl : i = j := by omega
                    rw [HX.out]; exact ⟨a5, a6⟩
                  case measure => simp [RowKit.intOf]; omega
                · have a6 : (x : Int) < 1 ∨ 64 ≤ (x : Int) := by omega
                  go_wp2_with (first
                    | (go_at_call 46; refine (ispart_yes (N : Int) (by omega) (by omega) _).mono ?_; rintro e w' ⟨rfl, rfl⟩)
                    | (go_at_call 46; refine (ispart_no (x : Int) a6 _).mono ?_; rintro e w' ⟨rfl, rfl⟩))
                  go_roundw
                  case rel => exact ⟨k2 + 1, L2.set j N, by omega, by go_num, (Below.heap_alloc _ _ _ (by simpa [World.setCell] using hG)).trans (hrow.out.set j N), laid2_set hlaid.out (by rw [hlt.out]; omega) HT.out rfl rfl hj (by omega) (by omega) (by rw [HX.out]; exact a5), (hbel.out.setCell (Nat.le_refl _) _).alloc (by simpa [World.setCell] using Nat.le_of_lt hG) _⟩
                  case measure => simp [RowKit.intOf]; omega
              · have a4 : N < 1 ∨ 64 ≤ N := by omega
                have A3 := Lib.hid a3; clear a3
                go_wp2_with (go_at_call 46; refine (ispart_no _ a4 _).mono ?_; rintro e w' ⟨rfl, rfl⟩)
                go_roundw
                case rel => exact ⟨k2 + 1, L2, by omega, by go_num, (HAL.out _).1, laid2_no hlaid.out (by rw [hlt.out]; omega) HT.out (fun i _ h => absurd h (by simp [tearHits]; omega)), (HAL.out _).2⟩
                case measure => simp [RowKit.intOf]; omega
            · have a3 : decide (K < (d : Int)) = false := by simpa using a2
              go_wp2
              go_roundw
              case rel => exact ⟨k2 + 1, L2, by omega, by go_num, (HAL.out _).1, laid2_no hlaid.out (by rw [hlt.out]; omega) HT.out (fun i _ h => absurd h (by simp [tearHits]; omega)), (HAL.out _).2⟩
              case measure => simp [RowKit.intOf]; omega
          · have a3 : decide (0 ≤ K) = false := by simpa using a1
            go_wp2
            go_roundw
            case rel => exact ⟨k2 + 1, L2, by omega, by go_num, (HAL.out _).1, laid2_no hlaid.out (by rw [hlt.out]; omega) HT.out (fun i _ h => absurd h (by simp [tearHits]; omega)), (HAL.out _).2⟩
            case measure => simp [RowKit.intOf]; omega
        · go_wp2
          go_ret
          obtain rfl : k2 = nt := by omega
          refine ⟨_, L2, rfl, Nat.le_refl _, hrow.out, hlaid.out.1, fun j hj => ?_, hbel.out⟩
          rw [hlaid.out.2 j hj, List.take_of_length_le (by rw [hlt.out]; exact Nat.le_refl _)]
end Go.Proofs.Ytfacinlpkblopaa
