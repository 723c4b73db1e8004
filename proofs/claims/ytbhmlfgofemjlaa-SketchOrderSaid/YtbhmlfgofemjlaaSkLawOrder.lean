/-
  The walk of the statement on the order of touches.
-/
import Derived.Test.YtbhmlfgofemjlaaSkLawLeast
set_option maxRecDepth 100000
namespace Go.Proofs.Ytbhmlfgofemjlaa
open Go.RowKit
/-- The first ones from behind. -/
theorem back_next (l : List Nat) (m k x : Nat) (hm : m ≤ l.length) (hk : k < m) (hx : l.getD (m - 1 - k) 0 = x) : Sk.run Sk.new ((l.take m).reverse.take (k + 1)) = Sk.touch (Sk.run Sk.new ((l.take m).reverse.take k)) x := by
  have hl : (l.take m).reverse.length = m := by rw [List.length_reverse, List.length_take]; omega
  refine run_next _ k x (by rw [hl]; exact hk) ?_
  rw [← hx, List.getD_eq_getElem?_getD, List.getD_eq_getElem?_getD, List.getElem?_reverse (by rw [List.length_take]; omega), List.length_take, List.getElem?_take, if_pos (by omega)]
  congr 2
  omega
set_option maxHeartbeats 4000000 in
theorem skorder_any (A : Option Addr) (n c : Nat) (l : List Nat) (h : Nat) (w : World) (hs : SlIs A n c) (hl : Hid (l.length = n)) (hb : Hid (Arr u64S w 0 w.heap.size A l)) (hr : Hid (∀ k, k < n → l.getD k 0 < 18446744073709551616)) (hh : h < 18446744073709551616) :
    Calls Try.prog 5 #[.slice A n c, .int .u64 (h : Int)] w fun e w' => e = .returned (.bool true) ∧ Below w.heap.size w w' := by
  have hcap := hs.2.2
  have hnc := hs.2.1
  obtain ⟨B, hB⟩ : ∃ B, w.heap.size = B := ⟨_, rfl⟩
  have HB0 : Hid (B ≤ w.heap.size) := Nat.le_of_eq hB.symm
  have CN := Lib.hid (sknew_any w)
  have HS1 := Lib.hid (SkSt.new (B := B) w HB0.out)
  have HB1 := Lib.hid (below_new w (.cells (skc .u8 Sk.new).toArray 41 (0, 0)))
  have hz1 : (w.alloc (.cells (skc .u8 Sk.new).toArray 41 (0, 0))).heap.size = B + 1 := by simp [hB]
  rw [hB] at CN HS1 HB1 hb
  rw [hB]
  generalize w.alloc (.cells (skc .u8 Sk.new).toArray 41 (0, 0)) = w1 at *
  have CN2 := Lib.hid (sknew_any w1)
  have HT2 := Lib.hid (SkSt.new (B := B) w1 (by omega))
  have HB2 := Lib.hid (below_new w1 (.cells (skc .u8 Sk.new).toArray 41 (0, 0)))
  have HS2 := Lib.hid (HS1.out.next HB2.out)
  have HB2' := Lib.hid (HB1.out.trans (HB2.out.mono (show B ≤ w1.heap.size by omega)))
  rw [hz1] at CN2 HT2
  generalize w1.alloc (.cells (skc .u8 Sk.new).toArray 41 (0, 0)) = w2 at *
  clear hB hz1 HS1 HB1 HB2
  obtain ⟨m, hm⟩ : ∃ m, min n 100 = m := ⟨_, rfl⟩
  have hmin : (if (100 : Int) < (n : Int) then (100 : Int) else (n : Int)) = (m : Int) := by split <;> omega
  have hmn : m ≤ n := by omega
  have hmh : m ≤ 100 := by omega
  clear hm
  go_enter Try.func5, Try.ntmps5
  go_wp2_with fail
  refine CN.out.mono ?_
  rintro e w1' ⟨rfl, rfl⟩
  go_wp2_with fail
  refine CN2.out.mono ?_
  rintro e w2' ⟨rfl, rfl⟩
  clear CN CN2
  go_wp2_with fail
  clear hmin
  go_loopw [8] (fun iv wr => ∃ k : Nat, k ≤ m ∧ iv = .int .i64 (k : Int) ∧ Hid (SkSt B wr B (Sk.run Sk.new (l.take k))) ∧ Hid (SkSt B wr (B + 1) (Sk.run Sk.new ((l.take m).reverse.take k))) ∧ Hid (Below B w wr)) (fun iv _ => m - (intOf iv).toNat)
  case atStart => exact ⟨0, Nat.zero_le _, rfl, HS2, HT2, HB2'⟩
  case round =>
    clear HS2 HT2 HB2'
    obtain ⟨k, hk, rfl, HS, HT, HB⟩ := hrel
    by_cases hlt : k < m
    · obtain ⟨ad, rfl⟩ := hb.out.some (k := k) (by rw [hl.out]; omega)
      obtain ⟨x, hx⟩ : ∃ x, l.getD k 0 = x := ⟨_, rfl⟩
      obtain ⟨j, hj⟩ : ∃ j, m - 1 - k = j := ⟨_, rfl⟩
      have hji : (m : Int) - 1 - (k : Int) = (j : Int) := by omega
      have hjn : j < n := by omega
      obtain ⟨y, hy⟩ : ∃ y, l.getD j 0 = y := ⟨_, rfl⟩
      have HX : Hid (x < 18446744073709551616) := by have := hr.out k (by omega); rw [hx] at this; exact this
      have HY : Hid (y < 18446744073709551616) := by have := hr.out j hjn; rw [hy] at this; exact this
      have HRN := Lib.hid (run_next l k x (by rw [hl.out]; omega) hx)
      have HRB := Lib.hid (back_next l m k y (by rw [hl.out]; exact hmn) hlt (by rw [hj]; exact hy))
      have m0 := u64s_at (hb.out.below HB.out (Nat.le_refl _)) k (by rw [hl.out]; omega)
      rw [hx] at m0
      have HZ := Lib.hid (Nat.le_trans HB0.out HB.out.size)
      have CT := Lib.hid (sktouch_any B x _ wr HX.out HS.out.few (Lib.hid HS.out.i))
      clear hj
      go_wp2_with fail
      refine CT.out.mono ?_
      rintro e w3 ⟨rfl, h3, ho3⟩
      have HS3 := Lib.hid (HS.out.touch h3)
      have HT3 := Lib.hid (HT.out.on ho3 (Nat.succ_ne_self B))
      have HB3 := Lib.hid (HB.out.trans (ho3.below HZ.out (Nat.le_refl _)))
      rw [← HRN.out] at HS3
      clear m0 CT HS HT HB h3 ho3 HZ
      have m0 := u64s_at (hb.out.below HB3.out (Nat.le_refl _)) j (by rw [hl.out]; exact hjn)
      rw [hy] at m0
      have HZ := Lib.hid (Nat.le_trans HB0.out HB3.out.size)
      have CT := Lib.hid (sktouch_any (B + 1) y _ w3 HY.out HT3.out.few (Lib.hid HT3.out.i))
      clear hx hy
      go_wp2_with fail
      refine CT.out.mono ?_
      rintro e w4 ⟨rfl, h4, ho4⟩
      have HT4 := Lib.hid (HT3.out.touch h4)
      have HS4 := Lib.hid (HS3.out.on ho4 (fun e => Nat.succ_ne_self B e.symm))
      have HB4 := Lib.hid (HB3.out.trans (ho4.below HZ.out (Nat.le_succ _)))
      rw [← HRB.out] at HT4
      clear m0 CT HS3 HT3 HB3 h4 ho4 HZ
      go_wp2_with fail
      go_roundw
      case rel => exact ⟨k + 1, by omega, by go_num, HS4, HT4, HB4⟩
      case measure => simp [intOf]; omega
    · obtain rfl : k = m := by omega
      have HTT : Hid (SkSt B wr (B + 1) (Sk.run Sk.new (l.take k).reverse)) := by
        have := HT.out
        rw [List.take_of_length_le (by rw [List.length_reverse, List.length_take]; omega)] at this
        exact this
      have HP := Lib.hid (Sk.est_perm (l := l.take k) (by rw [List.length_take]; omega) (List.reverse_perm (l.take k)).symm h)
      have HN1 := Lib.hid (Sk.run_g _ (l.take k) rfl (by rw [List.length_take]; omega)).1
      have HN2 := Lib.hid (Sk.run_g _ (l.take k).reverse rfl (by rw [List.length_reverse, List.length_take]; omega)).1
      have hlk : (l.take k).length = k := by rw [List.length_take, hl.out]; omega
      rw [List.length_reverse] at HN2
      rw [hlk] at HN1 HN2
      clear HT hlk
      have HZ := Lib.hid (Nat.le_trans HB0.out HB.out.size)
      go_wp2_with fail
      refine (skawake_any _).mono ?_
      rintro e w3 ⟨rfl, hb3⟩
      have HS3 := Lib.hid (HS.out.next hb3)
      have HT3 := Lib.hid (HTT.out.next hb3)
      have HB3 := Lib.hid (HB.out.trans (hb3.mono HZ.out))
      clear hb3 HS HTT HB HZ
      have C1 := Lib.hid (skest_any B h _ w3 hh (Lib.hid HS3.out.i))
      rw [HP.out] at C1
      go_wp2_with fail
      refine C1.out.mono ?_
      rintro e w4 ⟨rfl, n4, rfl⟩
      have HS4 := Lib.hid (HS3.out.drewN n4)
      have HT4 := Lib.hid (HT3.out.drewN n4)
      have HB4 := Lib.hid (below_drawn HB3.out n4)
      clear HS3 HT3 HB3 C1
      generalize w3.drewN n4 = w4 at *
      have C2 := Lib.hid (skest_any (B + 1) h _ w4 hh (Lib.hid HT4.out.i))
      generalize Sk.est (Sk.run Sk.new (l.take k).reverse) h = x at *
      go_wp2_with fail
      refine C2.out.mono ?_
      rintro e w5 ⟨rfl, n5, rfl⟩
      have HS5 := Lib.hid (HS4.out.drewN n5)
      have HT5 := Lib.hid (HT4.out.drewN n5)
      have HB5 := Lib.hid (below_drawn HB4.out n5)
      clear HS4 HT4 HB4 C2
      generalize w4.drewN n5 = w5 at *
      have C3 := Lib.hid (sktouches_any B _ w5 (Lib.hid HS5.out.i))
      rw [HN1.out] at C3
      have C4 := Lib.hid (sktouches_any (B + 1) _ w5 (Lib.hid HT5.out.i))
      rw [HN2.out] at C4
      go_wp2_with fail
      refine C3.out.mono ?_
      rintro e w6 ⟨rfl, rfl⟩
      go_wp2_with fail
      refine C4.out.mono ?_
      rintro e w6 ⟨rfl, rfl⟩
      go_wp2_with fail
      go_ret
      exact ⟨rfl, HB5.out⟩
end Go.Proofs.Ytbhmlfgofemjlaa
