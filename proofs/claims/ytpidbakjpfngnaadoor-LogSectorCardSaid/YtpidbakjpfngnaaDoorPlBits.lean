/-
  The walks of bits.TrailingZeros at the sizes of regions, and of plan.exponent.
-/
import Derived.Test.YtpidbakjpfngnaaDoorPlMath
namespace Go.Proofs.YtpidbakjpfngnaaDoor
open Go.RowKit
/-- The table of de Bruijn's sequence of 64 bits. -/
def Pl.bruijn : List Nat := [0, 1, 56, 2, 57, 49, 28, 3, 61, 58, 42, 50, 38, 29, 17, 4, 62, 47, 59, 36, 45, 43, 51, 22, 53, 39, 33, 30, 24, 18, 12, 5, 63, 55, 48, 27, 60, 41, 37, 16, 46, 35, 44, 21, 52, 32, 23, 11, 54, 26, 40, 15, 34, 20, 31, 10, 25, 14, 19, 9, 13, 8, 7, 6]
/-- The program's table lies there as its initialiser lays it. -/
def DbW (w : World) : Prop := ∀ k, k < 64 → w.cell? ⟨2, k, none⟩ = some (.int .u8 ((Pl.bruijn.getD k 0 : Nat) : Int))
theorem DbW.below {B : Nat} {w w' : World} (h : DbW w) (hb : Below B w w') (hB : 2 < B) : DbW w' := fun k hk => (hb.cell (p := ⟨2, k, none⟩) hB).trans (h k hk)
/-- Where the table is read. -/
def Pl.at (n : Int) : Int := IntKind.u64.wrap (bits .and .u64 n (IntKind.u64.wrap (-n)) * 285870213051353865) / 288230376151711744
theorem Pl.at_is {n : Int} (h : Sb.pw n) : ∃ k : Nat, k < 64 ∧ Pl.at n = (k : Int) ∧ Pl.bruijn.getD k 0 = Sb.ex n := by
  rcases h with rfl | rfl | rfl | rfl | rfl | rfl | rfl | rfl | rfl | rfl | rfl
  · exact ⟨1, by decide, by decide +kernel, by decide⟩
  · exact ⟨3, by decide, by decide +kernel, by decide⟩
  · exact ⟨7, by decide, by decide +kernel, by decide⟩
  · exact ⟨15, by decide, by decide +kernel, by decide⟩
  · exact ⟨31, by decide, by decide +kernel, by decide⟩
  · exact ⟨63, by decide, by decide +kernel, by decide⟩
  · exact ⟨62, by decide, by decide +kernel, by decide⟩
  · exact ⟨61, by decide, by decide +kernel, by decide⟩
  · exact ⟨59, by decide, by decide +kernel, by decide⟩
  · exact ⟨55, by decide, by decide +kernel, by decide⟩
  · exact ⟨47, by decide, by decide +kernel, by decide⟩
theorem tz64_any (n : Int) (h : Sb.pw n) (w : World) (hd : Hid (DbW w)) : Calls Tryd.prog 100 #[.int .u64 n] w fun e w' => e = .returned (.int .i64 (Sb.ex n : Int)) ∧ w = w' := by
  obtain ⟨k, hk, hq, hv⟩ := Pl.at_is h
  have hc := hd.out k hk
  rw [hv] at hc
  have hx := Sb.ex_le n
  have hn := Sb.pw_le h
  have h0 : (n == 0) = false := beq_eq_false_iff_ne.2 (by omega)
  have hw : IntKind.i64.wrap (Sb.ex n : Int) = (Sb.ex n : Int) := by rw [IntKind.wrap_i64]; omega
  have hk2 : (0 : Int) ≤ (k : Int) ∧ (k : Int) < 64 := by omega
  unfold Pl.at at hq
  clear hv h hn hx hd
  generalize Sb.ex n = x at *
  go_enter Tryd.func100, Tryd.ntmps100
  go_wp2_with fail
  go_ret
  exact ⟨rfl, rfl⟩
theorem tz_any (n : Int) (h : Sb.pw n) (w : World) (hd : Hid (DbW w)) : Calls Tryd.prog 78 #[.int .u64 n] w fun e w' => e = .returned (.int .i64 (Sb.ex n : Int)) ∧ w = w' := by
  have C := Lib.hid (tz64_any n h w hd)
  clear h hd
  go_enter Tryd.func78, Tryd.ntmps78
  go_wp2_with fail
  refine C.out.mono ?_
  rintro r w' ⟨rfl, rfl⟩
  go_wp2_with fail
  go_ret
  exact ⟨rfl, rfl⟩
theorem plexponent_any (n : Int) (h : Sb.pw n) (w : World) (hd : Hid (DbW w)) : Calls Tryd.prog 64 #[.int .i64 n] w fun e w' => e = .returned (.int .u64 (Sb.ex n : Int)) ∧ w = w' := by
  have C := Lib.hid (tz_any n h w hd)
  have hx := Sb.ex_le n
  have hn := Sb.pw_le h
  have h1 : IntKind.u64.wrap n = n := by rw [IntKind.wrap_u64]; omega
  have h2 : IntKind.u64.wrap (Sb.ex n : Int) = (Sb.ex n : Int) := by rw [IntKind.wrap_u64]; omega
  clear h hd hx hn
  generalize Sb.ex n = x at *
  go_enter Tryd.func64, Tryd.ntmps64
  go_wp2_with fail
  refine C.out.mono ?_
  rintro r w' ⟨rfl, rfl⟩
  go_wp2_with fail
  go_ret
  exact ⟨rfl, rfl⟩
end Go.Proofs.YtpidbakjpfngnaaDoor
