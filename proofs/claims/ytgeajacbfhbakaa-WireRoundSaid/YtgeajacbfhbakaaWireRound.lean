/-
  The walk of the statement that a number is read as it was written.
-/
import Derived.Test.YtgeajacbfhbakaaWireLaws
namespace Go.Proofs.Ytgeajacbfhbakaa
open Go.RowKit
theorem rem8 (x : Int) : ∃ t : Int, x.tmod 8 = t ∧ -8 < t ∧ t < 8 := by
  refine ⟨_, rfl, ?_⟩
  have h : (x.tmod 8).natAbs = x.natAbs % 8 := Int.natAbs_tmod x 8
  omega
set_option maxHeartbeats 800000 in
theorem wireround_any (N : Nat) (hN : N < 18446744073709551616) (wd : Int) (w : World) :
    Calls Try.prog 4 #[.int .u64 (N : Int), .int .i64 wd] w fun e w' => e = .returned (.bool true) ∧ Below w.heap.size w w' := by
  obtain ⟨t, et, ht1, ht2⟩ := rem8 wd
  obtain ⟨m, em, hm1, hm8⟩ : ∃ m : Nat, 1 + t % 8 = (m : Int) ∧ 1 ≤ m ∧ m ≤ 8 := ⟨(1 + t % 8).toNat, by omega, by omega, by omega⟩
  have hlit : Hid (Bs (w.alloc (.cells #[.int .u8 9] 5)) (w.heap.size + 1) (some ⟨w.heap.size, 0, none⟩) [9]) := bs_lit w [9] (by decide)
  have hb0 : Hid (Below w.heap.size w (w.alloc (.cells #[.int .u8 9] 5))) := (Below.refl _ w).alloc (Nat.le_refl _) _
  have hlb : Hid (∀ y ∈ [9] ++ Wire.be m N, y < 256) := fun y hy => by
    rcases List.mem_append.1 hy with h | h
    · have : y = 9 := List.mem_singleton.1 h
      omega
    · exact Wire.be_lt _ _ y h
  have hll : Hid (([9] ++ Wire.be m N).length = m + 1) := by
    show _ = _
    rw [List.length_append, Wire.be_length, List.length_singleton]; omega
  have hnum : Hid (Wire.num (List.take m (Wire.be m N)) = N % 256 ^ m) := by
    show _ = _
    rw [List.take_of_length_le (by rw [Wire.be_length]; exact Nat.le_refl _), Wire.num_be]
  have hd1 : Hid (List.drop m (Wire.be m N) = []) := List.drop_eq_nil_of_le (by rw [Wire.be_length]; exact Nat.le_refl _)
  have hbl : Hid ((Wire.be m N).length = m) := Wire.be_length m N
  have hcase : (m < 8 ∧ bits .and .u64 (N : Int) (IntKind.u64.wrap (IntKind.u64.wrap (2 ^ (8 * m)) - 1)) = ((N % 256 ^ m : Nat) : Int)) ∨ (m = 8 ∧ N % 256 ^ m = N) := by
    by_cases h8 : m < 8
    · exact .inl ⟨h8, Wire.and_low N m hN (by omega)⟩
    · obtain rfl : m = 8 := by omega
      exact .inr ⟨rfl, Wire.mod_all N hN⟩
  generalize hq : N % 256 ^ m = q at hnum hcase
  clear hq hN
  rcases hcase with ⟨h8, ea⟩ | ⟨rfl, rfl⟩
  all_goals
    go_enter Try.func4, Try.ntmps4
    go_wp2_with fail
    refine (put_ok _ (w.heap.size + 1) 1 1 [9] _ _ _ rfl _ (fun h => by cases h) rfl (by omega) hlit hm1 hm8).mono ?_
    rintro e w1 ⟨v, rfl, hown, hb1⟩
    have HB1 : Hid (Below w.heap.size w w1) := hb0.out.trans (hb1.mono hb0.out.size)
    obtain ⟨A1, c1, rfl, hbs1, hlen1, hc1, _, hA1⟩ := own_bytes hown hlb.out
    have HS1 : Hid (Bs w1 w1.heap.size A1 _) := hbs1
    clear hown hb1 hbs1 hlen1
    go_wp2_with fail
    refine (newreader_any A1 w1.heap.size _ c1 _ w1 (fun e => by rcases hA1 with ⟨_, h, h2⟩ | ⟨g, h, _⟩ <;> first | exact ⟨h2, h⟩ | (rw [h] at e; cases e)) rfl (by rw [hll.out]; omega) HS1).mono ?_
    rintro e w2 ⟨g, rfl, hr, hb2⟩
    have HR2 := Lib.hid hr
    have HB2 : Hid (Below w.heap.size w w2) := HB1.out.trans (hb2.mono HB1.out.size)
    have HG : Hid (w.heap.size ≤ g ∧ g < w2.heap.size) := ⟨Nat.le_trans HB1.out.size hr.lo_le, hr.lt⟩
    clear hr hb2 hA1 hc1
    go_wp2_with fail
    refine (awake_any w2).mono ?_
    rintro e w3 ⟨rfl, hb3⟩
    have HR3 := Lib.hid (HR2.out.below hb3 HG.out.2)
    have HB3 : Hid (Below w.heap.size w w3) := HB2.out.trans (hb3.mono HB2.out.size)
    clear hb3 HR2
    go_wp2_with fail
    refine (num_ok _ g _ _ 1 rfl (by omega) (by omega) (by rw [hll.out]; omega) w3 HR3).mono ?_
    rintro e w4 ⟨rfl, hr4, hg4⟩
    have HB4 : Hid (Below w.heap.size w w4) := HB3.out.trans (below_of_grown hg4 HG.out.1 HB3.out.size)
    have HR4 := Lib.hid hr4
    rw [show ∀ x : List Nat, Wire.num (List.take 1 ([9] ++ x)) = 9 from fun _ => rfl]
    rw [show ∀ x : List Nat, List.drop 1 ([9] ++ x) = x from fun _ => rfl] at HR4
    clear hr4 hg4 HR3
    go_wp2_with fail
    refine (num_ok _ g _ _ _ rfl hm1 hm8 (by rw [hbl.out]; exact Nat.le_refl _) w4 HR4).mono ?_
    rintro e w5 ⟨rfl, hr5, hg5⟩
    have HB5 : Hid (Below w.heap.size w w5) := HB4.out.trans (below_of_grown hg5 HG.out.1 HB4.out.size)
    rw [hnum.out]
    rw [hd1.out] at hr5
    have HR5 := Lib.hid hr5
    clear hr5 hg5 HR4
    go_wp2_with fail
    refine (ok_any _ g false [] w5 HR5).mono ?_
    rintro e w6 ⟨rfl, rfl⟩
    go_wp2_with fail
    refine (rest_any _ g false [] w5 HR5).mono ?_
    rintro e w6 ⟨rfl, rfl⟩
    go_wp2
    go_ret
    exact ⟨rfl, HB5.out⟩
end Go.Proofs.Ytgeajacbfhbakaa
