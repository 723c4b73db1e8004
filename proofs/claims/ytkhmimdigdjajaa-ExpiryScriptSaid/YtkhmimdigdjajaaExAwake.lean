/-
  A queue in a statement's world; the statements' comparison of strings; the sanity check.
-/
import Derived.Test.YtkhmimdigdjajaaExDue
import Derived.BigQuiet
set_option maxRecDepth 100000
namespace Go.Proofs.Ytkhmimdigdjajaa
open Go.RowKit Go.Maps
/-- A queue whose blocks all lie from B on. -/
structure QSt (B : Nat) (w : World) (q : Nat) (S : Nat → Prop) (M : Nat) (L : List Ex.On) : Prop where
  s : ∀ k, S k → B ≤ k ∧ k < w.heap.size
  t : Que M w S q L
section
variable {B q M : Nat} {w w' : World} {S : Nat → Prop} {L L' : List Ex.On}
theorem QSt.next (h : QSt B w q S M L) (hb : Below w.heap.size w w') : QSt B w' q S M L := ⟨fun k hk => ⟨(h.s k hk).1, Nat.lt_of_lt_of_le (h.s k hk).2 hb.size⟩, h.t.next hb⟩
theorem QSt.same (h : QSt B w q S M L) (hk : Kept S w w') (ht : Que M w' S q L') : QSt B w' q S M L' := ⟨fun k hs => ⟨(h.s k hs).1, Nat.lt_of_lt_of_le (h.s k hs).2 hk.size⟩, ht⟩
theorem QSt.far {T : Nat → Prop} (h : QSt B w q S M L) (hk : Kept T w w') (hd : ∀ k, S k → ¬ T k) : QSt B w' q S M L := ⟨fun k hs => ⟨(h.s k hs).1, Nat.lt_of_lt_of_le (h.s k hs).2 hk.size⟩, h.t.kept hk fun k _ => hd k⟩
theorem QSt.below (h : QSt B w q S M L) (hB : B ≤ w.heap.size) (hk : Kept S w w') : Below B w w' := hk.below hB fun k hs => (h.s k hs).1
theorem QSt.snc (h : QSt B w q S M L) (hB : B ≤ w.heap.size) (hk : Kept S w w') (ht : Que (M + 1) w' (Snc S w w') q L') : QSt B w' q (Snc S w w') (M + 1) L' :=
  ⟨fun k hs => hs.elim (fun hs => ⟨(h.s k hs).1, Nat.lt_of_lt_of_le (h.s k hs).2 hk.size⟩) fun hs => ⟨Nat.le_trans hB hs.1, hs.2⟩, ht⟩
end
set_option maxHeartbeats 2000000 in
/-- Two lists that are equal. -/
theorem exstrings_any (A A' : Option Addr) (lo B lo' B' n c c' : Nat) (l : List ByteArray) (w : World) (hl : Hid (l.length = n)) (hn : n ≤ 140737488355328) (hb : Hid (Arr strS w lo B A l)) (hb' : Hid (Arr strS w lo' B' A' l)) :
    Calls Try.prog 12 #[.slice A n c, .slice A' n c'] w fun r w' => r = .returned (.bool true) ∧ Below w.heap.size w w' := by
  have HB0 := Lib.hid (Below.refl w.heap.size w)
  go_enter Try.func12, Try.ntmps12
  go_wp2
  go_loopw [5, 13] (fun xv iv wr => ∃ k q : Nat, k ≤ n ∧ iv = .int .i64 k ∧ wr = w.drewN q) (fun _ i _ => n - (Go.RowKit.intOf i).toNat)
  case atStart => exact ⟨0, 0, Nat.zero_le _, rfl, rfl⟩
  case round =>
    obtain ⟨k, q, hk, rfl, rfl⟩ := hrel
    by_cases hlt : k < n
    · obtain ⟨ad, rfl⟩ := hb.out.some (k := k) (by rw [hl.out]; exact hlt)
      obtain ⟨ad', rfl⟩ := hb'.out.some (k := k) (by rw [hl.out]; exact hlt)
      obtain ⟨x, HX⟩ : ∃ p, Hid (l.getD k ⟨#[]⟩ = p) := ⟨_, rfl⟩
      have m0 := strs_at hb.out k (by rw [hl.out]; exact hlt) x HX.out
      have p0 := strs_at hb'.out k (by rw [hl.out]; exact hlt) x HX.out
      go_wp2
      go_quiet (fail)
      go_wp2
      go_roundw
      case rel => exact ⟨k + 1, _, by omega, by go_num, rfl⟩
      case measure => simp [Go.RowKit.intOf]; omega
    · obtain rfl : k = n := by omega
      go_wp2
      go_ret
      exact ⟨rfl, below_drawn HB0.out _⟩
def xA : ByteArray := { data := #[97] }
def xB : ByteArray := { data := #[98] }
def xC : ByteArray := { data := #[99] }
theorem awake_list : Ex.put (Ex.put (Ex.put [] xB 5) xA 5) xC 3 = [⟨xC, 3⟩, ⟨xA, 5⟩, ⟨xB, 5⟩] := by kernel_rfl
theorem awake_due : Ex.keys (Ex.due 5 [⟨xC, 3⟩, ⟨xA, 5⟩, ⟨xB, 5⟩]) = [xC, xA, xB] ∧ Ex.left 5 [⟨xC, 3⟩, ⟨xA, 5⟩, ⟨xB, 5⟩] = [] := by
  constructor <;> kernel_rfl
set_option maxHeartbeats 2000000 in
theorem exawake_any (w : World) : Calls Try.prog 17 #[] w fun e w' => e = .returned (.bool true) ∧ Below w.heap.size w w' := by
  obtain ⟨B, hB⟩ : ∃ B, w.heap.size = B := ⟨_, rfl⟩
  have CN := Lib.hid (exnew_any w)
  have HB0 : Hid (B ≤ w.heap.size) := Nat.le_of_eq hB.symm
  rw [hB]
  go_enter Try.func17, Try.ntmps17
  go_wp2_with fail
  refine CN.out.mono ?_
  rw [hB]
  rintro e w1 ⟨rfl, hb1, -, hT1⟩
  have HB1 := Lib.hid hb1
  have HS1 : Hid (QSt B w1 B (fun k => k = B) 0 []) := ⟨fun k e => by rw [e]; exact ⟨Nat.le_refl _, hT1.lt⟩, hT1⟩
  clear hb1 hT1 CN hB
  go_wp2_with fail
  refine (exput_any 0 B xB 5 _ _ w1 (by decide) (by decide) (Lib.hid HS1.out.t)).mono ?_
  rintro e w2 ⟨rfl, hk2, hT2⟩
  have HS2 := Lib.hid (HS1.out.snc (Nat.le_trans HB0.out HB1.out.size) hk2 hT2)
  have HB2 := Lib.hid (HB1.out.trans (HS1.out.below (Nat.le_trans HB0.out HB1.out.size) hk2))
  generalize Snc (fun k => k = B) w1 w2 = S2 at *
  clear hk2 hT2 HS1 HB1
  go_wp2_with fail
  refine (exput_any 1 B xA 5 _ _ w2 (by decide) (by decide) (Lib.hid HS2.out.t)).mono ?_
  rintro e w3 ⟨rfl, hk3, hT3⟩
  have HS3 := Lib.hid (HS2.out.snc (Nat.le_trans HB0.out HB2.out.size) hk3 hT3)
  have HB3 := Lib.hid (HB2.out.trans (HS2.out.below (Nat.le_trans HB0.out HB2.out.size) hk3))
  generalize Snc S2 w2 w3 = S3 at *
  clear hk3 hT3 HS2 HB2
  go_wp2_with fail
  refine (exput_any 2 B xC 3 _ _ w3 (by decide) (by decide) (Lib.hid HS3.out.t)).mono ?_
  rintro e w4 ⟨rfl, hk4, hT4⟩
  rw [awake_list] at hT4
  have HS4 := Lib.hid (HS3.out.snc (Nat.le_trans HB0.out HB3.out.size) hk4 hT4)
  have HB4 := Lib.hid (HB3.out.trans (HS3.out.below (Nat.le_trans HB0.out HB3.out.size) hk4))
  generalize Snc S3 w3 w4 = S4 at *
  clear hk4 hT4 HS3 HB3
  go_wp2_with fail
  refine (exdue_any 3 B 5 _ S4 w4 (by decide) (Lib.hid HS4.out.t)).mono ?_
  rintro e w5 ⟨v, rfl, hr5, hk5, hT5⟩
  rw [awake_due.1] at hr5
  rw [awake_due.2] at hT5
  have HS5 := Lib.hid (HS4.out.same hk5 hT5)
  have HB5 := Lib.hid (HB4.out.trans (HS4.out.below (Nat.le_trans HB0.out HB4.out.size) hk5))
  obtain ⟨A, c, rfl, -, harr⟩ := hr5.open_
  have HA5 := Lib.hid harr
  clear hr5 hk5 hT5 harr HS4 HB4
  rw [show [xC, xA, xB].length = 3 from rfl]
  have HX6 := Lib.hid (heap_alloc_new w5 (.cells #[.string xC, .string xA, .string xB] 9 (0, 0)))
  have HB6 : Hid (Below w5.heap.size w5 (w5.alloc (.cells #[.string xC, .string xA, .string xB] 9 (0, 0)))) := (Below.refl _ _).alloc (Nat.le_refl _) _
  have HZ5 : Hid (B ≤ w5.heap.size) := Nat.le_trans HB0.out HB5.out.size
  have HA6 := Lib.hid (HA5.out.below HB6.out (Nat.le_refl _))
  have HS6 := Lib.hid (HS5.out.next HB6.out)
  have HB6' := Lib.hid (HB5.out.trans (HB6.out.mono HZ5.out))
  have HA6' : Hid (Arr strS (w5.alloc (.cells #[.string xC, .string xA, .string xB] 9 (0, 0))) 0 (w5.heap.size + 1) (some ⟨w5.heap.size, 0, none⟩) [xC, xA, xB]) := fun k hk => by
    refine ⟨_, rfl, Nat.zero_le _, Nat.lt_succ_self _, fun j v e => ?_⟩
    rw [arr_flat, Nat.zero_add, cell_of_row _ _ _ _ _ _ HX6.out]
    have hk : k < 3 := hk
    have hj : j < 1 := by
      rcases Nat.lt_or_ge j 1 with h | h
      · exact h
      · rw [List.getElem?_eq_none (by rw [strS.len]; exact h)] at e; cases e
    obtain rfl : j = 0 := by omega
    rw [show k * strS.m + 0 = k from Nat.mul_one k]
    rcases (show k = 0 ∨ k = 1 ∨ k = 2 by omega) with rfl | rfl | rfl <;> exact e
  clear HA5 HS5 HB5 HX6 HB6
  have CC := Lib.hid (exstrings_any A (some ⟨w5.heap.size, 0, none⟩) w4.heap.size w5.heap.size 0 (w5.heap.size + 1) 3 c 3 [xC, xA, xB] _ rfl (by decide) HA6 HA6')
  go_wp2_with fail
  refine CC.out.mono ?_
  rintro e w7 ⟨rfl, hb7⟩
  have HS7 := Lib.hid (HS6.out.next hb7)
  have HB7 := Lib.hid (HB6'.out.trans (hb7.mono (Nat.le_trans HZ5.out (by simp))))
  clear HA6 HS6 HB6' HA6' hb7 CC
  have CL := Lib.hid (exlen_any 3 B 0 [] S4 w7 rfl (Lib.hid HS7.out.t))
  go_wp2_with fail
  refine CL.out.mono ?_
  rintro e w8 ⟨rfl, rfl⟩
  go_wp2_with fail
  go_ret
  exact ⟨rfl, HB7.out⟩
end Go.Proofs.Ytkhmimdigdjajaa
