/-
  The law on New, walked.
-/
import Derived.Test.YtfacinlpkblopaaFlashAwake
namespace Go.Proofs.Ytfacinlpkblopaa
open Go.RowKit Go.Maps
theorem sec_zero {n i : Nat} (hi : i < n) : sec (List.replicate (n * 64) 0) i = List.replicate 64 0 := by
  unfold sec
  rw [List.drop_replicate, List.take_replicate]
  congr 1
  omega
theorem made_bytes {w : World} {base : Nat} {v : Value} {k : Nat} (h : w.ownsRow base 5 1 v k (madeCells (Value.cells (.int .u8 0)) (k * 1)).toList) : w.ownsRow base 5 1 v k (vals (List.replicate k 0)) := by
  rw [← vals_zero]; exact h
def LawDid (w : World) (e : Ending) (w' : World) : Prop := e = .returned (.bool true) ∧ Below w.heap.size w w'
set_option maxHeartbeats 1000000 in
theorem devicenew_yes (n : Int) (h1 : 1 ≤ n) (h2 : n ≤ 1048576) (w : World) : Calls Try.prog 7 #[.int .i64 n] w (LawDid w) := by
  obtain ⟨N, hN, hN1, hN2⟩ : ∃ N : Nat, 1 + n % 300 = (N : Int) ∧ 1 ≤ N ∧ N ≤ 300 := ⟨(1 + n % 300).toNat, by omega, by omega, by omega⟩
  obtain ⟨i0, hi0, hz0, hz1, hz2⟩ := info_parts info_u8
  have I0 := Lib.hid (And.intro hi0 (And.intro hz0 (And.intro hz1 hz2))); clear hi0 hz0 hz1 hz2
  have B0 : Hid (i0.bytes * 64 ≤ 281474976710656 ∧ 64 ≤ maxLen) := by rw [I0.out.2.2.2]; exact ⟨by omega, by unfold maxLen; omega⟩
  have hm1 : (N : Int) - 1 = ((N - 1 : Nat) : Int) := by omega
  go_enter Try.func7, Try.ntmps7
  go_wp2_with fail
  refine (new_yes N _ rfl _ hN1 (by omega)).mono ?_
  rintro e w1 ⟨g, c, m, rfl, hd, -, -, -, hb1⟩
  have HD := Lib.hid (And.intro hd hb1); clear hd hb1
  go_wp2_with fail
  refine (read_ok (N - 1) _ rfl (by omega) (Lib.hid HD.out.1) rfl).mono ?_
  rintro e w2 ⟨g2, cap2, rfl, hg2, hl2, hbs2, hcap1, hcap2, hb2⟩
  have e2 : sec (Flash.fresh (List.replicate (N * 64) 0)).cur (N - 1) = List.replicate 64 0 := sec_zero (by omega)
  rw [e2] at hbs2
  have HD2 : Hid (Dev w2 g c m N (Flash.fresh (List.replicate (N * 64) 0)) ∧ Below w.heap.size w w2 ∧ Bs w2 w2.heap.size (some ⟨g2, 0, none⟩) (List.replicate 64 0)) :=
    ⟨HD.out.1.below hb2 HD.out.1.lt.1 HD.out.1.lt.2.1 HD.out.1.lt.2.2, HD.out.2.trans (hb2.mono HD.out.2.size), hbs2⟩
  clear HD hl2 hbs2 hb2 e2 hm1
  go_wp2_with fail
  refine (read_range (N : Int) (.inr (Int.le_refl _)) (Lib.hid HD2.out.1) rfl).mono ?_
  rintro e w3 ⟨rfl, rfl⟩
  go_wp2_with fail
  refine (awake_any _).mono ?_
  rintro e w4 ⟨rfl, hb4⟩
  have HD4 : Hid (Dev w4 g c m N (Flash.fresh (List.replicate (N * 64) 0)) ∧ Below w.heap.size w w4 ∧ Bs w4 w4.heap.size (some ⟨g2, 0, none⟩) (List.replicate 64 0)) :=
    ⟨HD2.out.1.below hb4 HD2.out.1.lt.1 HD2.out.1.lt.2.1 HD2.out.1.lt.2.2, HD2.out.2.1.trans (hb4.mono HD2.out.2.1.size), (HD2.out.2.2.below hb4 (Nat.le_refl _)).more hb4.size⟩
  clear HD2 hb4
  go_wp2_with (first
    | (go_at_call 27; refine (sectors_any (Lib.hid HD4.out.1)).mono ?_; rintro e w' ⟨rfl, rfl⟩)
    | (at_make; refine make_full_want w4 rfl _ _ 27 rfl w.heap.size 5 i0 (.int .u8 0) 1 Try.underlying27 I0.out.1 I0.out.2.1 I0.out.2.2.1 .i64 .i64 _ _ 64 rfl rfl rfl rfl B0.out.1 B0.out.2 HD4.out.2.1.size ?_; intro w5 hown hg5))
  have HW5 : Hid (Below w4.heap.size w4 w5 ∧ Bs w5 w5.heap.size (some ⟨w4.heap.size, 0, none⟩) (List.replicate 64 0)) := by
    have hb5 : Below w4.heap.size w4 w5 := (Below.refl _ w4).grown hg5 (Nat.le_refl _) (fun k e => by cases e)
    obtain ⟨A, cap, e, h1, -⟩ := own_bytes (made_bytes hown) (fun x hx => by rw [List.eq_of_mem_replicate hx]; decide)
    injection e with e
    rw [← e] at h1
    exact ⟨hb5, h1⟩
  clear hown hg5
  refine (refeq_any _ _ _ _ 64 64 _ _ (List.replicate 64 0) (List.replicate 64 0) _ rfl rfl (by omega) (by omega) (Lib.hid (HD4.out.2.2.below HW5.out.1 (Nat.le_refl _))) HW5.out.2).mono ?_
  rintro e w6 ⟨rfl, q, rfl⟩
  have hq : decide (List.replicate 64 0 = List.replicate 64 0) = true := by simp
  have HD6 : Hid (Dev (w5.drewN q) g c m N (Flash.fresh (List.replicate (N * 64) 0))) := (HD4.out.1.below HW5.out.1 HD4.out.1.lt.1 HD4.out.1.lt.2.1 HD4.out.1.lt.2.2).drewN q
  go_wp2_with (go_at_call 25; refine (dead_any HD6).mono ?_; rintro e w' ⟨rfl, rfl⟩)
  go_ret
  have hb : Below w.heap.size w w5 := HD4.out.2.1.trans (HW5.out.1.mono HD4.out.2.1.size)
  exact ⟨rfl, hb.os, hb.tape, hb.output, hb.size, hb.block⟩
set_option maxHeartbeats 1000000 in
theorem devicenew_no (n : Int) (h : n < 1 ∨ 1048576 < n) (w : World) : Calls Try.prog 7 #[.int .i64 n] w (LawDid w) := by
  have hd : decide (1 ≤ n) = false ∨ (decide (1 ≤ n) = true ∧ decide (n ≤ 1048576) = false) := by
    rcases h with h | h
    · exact .inl (by simpa using h)
    · exact .inr ⟨by simp; omega, by simpa using h⟩
  rcases hd with hd | ⟨hd, hd2⟩
  all_goals
    go_enter Try.func7, Try.ntmps7
    go_wp2_with (first
      | (go_at_call 9; refine (new_no _ _ h).mono ?_; rintro e w' ⟨rfl, rfl⟩)
      | (go_at_call 23; refine (awake_any _).mono ?_; rintro e w4 ⟨rfl, hb4⟩; have HB := Lib.hid hb4; clear hb4)
      | (go_at_call 27; refine (sectors_nil _).mono ?_; rintro e w' ⟨rfl, rfl⟩)
      | (go_at_call 25; refine (dead_nil _).mono ?_; rintro e w' ⟨rfl, rfl⟩)
      | (go_at_call 11; refine (write_nil _ _ _).mono ?_; rintro e w' ⟨rfl, rfl⟩)
      | (go_at_call 16; refine (barrier_nil _).mono ?_; rintro e w' ⟨rfl, rfl⟩)
      | (go_at_call 20; refine (crash_nil _ _ _).mono ?_; rintro e w' ⟨rfl, rfl⟩)
      | (go_at_call 28; refine (dirty_nil _).mono ?_; rintro e w' ⟨rfl, rfl⟩)
      | (go_at_call 29; refine (writes_nil _).mono ?_; rintro e w' ⟨rfl, rfl⟩))
    go_ret
    exact ⟨rfl, HB.out⟩
theorem devicenew_any (n : Int) (w : World) : Calls Try.prog 7 #[.int .i64 n] w (LawDid w) := by
  by_cases h : 1 ≤ n ∧ n ≤ 1048576
  · exact devicenew_yes n h.1 h.2 w
  · exact devicenew_no n (by omega) w
end Go.Proofs.Ytfacinlpkblopaa
