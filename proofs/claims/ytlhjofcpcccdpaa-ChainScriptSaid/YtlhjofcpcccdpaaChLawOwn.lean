/-
  The walk of the statement on a chain's own memory.
-/
import Derived.Test.YtlhjofcpcccdpaaChAwake
set_option maxRecDepth 100000
namespace Go.Proofs.Ytlhjofcpcccdpaa
open Go.RowKit Go.Maps
/-- The first ten bytes of a key. -/
def ten (s : ByteArray) : ByteArray := s.extract 0 (min s.size 10)
theorem ten_size (s : ByteArray) : (ten s).size ≤ 1048576 := by
  unfold ten
  rw [ByteArray.size_extract]
  omega
theorem own_items (off : Int) (k : ByteArray) : Ch.add (fun _ => []) 1 off k 1 = [(off, k)] := by
  unfold Ch.add
  rw [if_pos rfl]
  rfl
set_option maxHeartbeats 4000000 in
theorem chainown_any (off : Int) (k : ByteArray) (w : World) (ho : (Lit.int .i64 off).wf = true) :
    Calls Try.prog 4 #[.int .i64 off, .string k] w fun e w' => e = .returned (.bool true) ∧ Below w.heap.size w w' := by
  obtain ⟨B, hB⟩ : ∃ B, w.heap.size = B := ⟨_, rfl⟩
  have CN := Lib.hid (chnew_any 0 w)
  have HB0 : Hid (B ≤ w.heap.size) := Nat.le_of_eq hB.symm
  have HO := Lib.hid ho
  obtain ⟨m, hm⟩ : ∃ m, m = min k.size 10 := ⟨_, rfl⟩
  have hmi : min (k.size : Int) 10 = (m : Int) := by omega
  have hmi2 : (if (10 : Int) < (k.size : Int) then (10 : Int) else (k.size : Int)) = (m : Int) := by split <;> omega
  have hm1 : m ≤ k.size := by omega
  have hcut : k.extract 0 m = ten k := by rw [hm]; rfl
  rw [hB]
  clear ho hm
  go_enter Try.func4, Try.ntmps4
  go_upto_region 2 with fail
  have HTS := Lib.hid (ten_size k)
  generalize ten k = t at *
  clear hmi hmi2 hm1 hcut
  go_wp2_with fail
  refine CN.out.mono ?_
  rw [hB]
  rintro e w1 ⟨rfl, hb1, hT1⟩
  have HB1 := Lib.hid hb1
  have HS1 : Hid (CSt B w1 B (fun k => k = B) 0 (fun _ => [])) := ⟨fun k e => by rw [e]; exact ⟨Nat.le_refl _, hT1.lt⟩, hT1⟩
  clear hb1 hT1 CN hB
  go_wp2_with fail
  refine (chadd_any 0 B 1 off t _ _ w1 (by decide) HTS.out (by decide) HO.out HS1.out.t).mono ?_
  rintro e w2 ⟨rfl, hk2, hT2⟩
  have HS2 := Lib.hid (HS1.out.snc (Nat.le_trans HB0.out HB1.out.size) hk2 hT2)
  have HB2 := Lib.hid (HB1.out.trans (HS1.out.below (Nat.le_trans HB0.out HB1.out.size) hk2))
  generalize Snc (fun k => k = B) w1 w2 = S2 at *
  clear hk2 hT2 HS1 HB1
  have CI := chitems_any 1 B 1 _ S2 w2 (by decide) (by decide) HS2.out.t
  rw [own_items] at CI
  go_wp2_with fail
  refine CI.mono ?_
  rintro e w3 ⟨g, c, rfl, -, -, hg1, hg2, harr, hfz, hb3⟩
  have HS3 := Lib.hid (HS2.out.next hb3)
  have HB3 := Lib.hid (HB2.out.trans (hb3.mono (Nat.le_trans HB0.out HB2.out.size)))
  have HGS : Hid (∀ k, S2 k → k ≠ g) := fun k hk e => by have := (HS2.out.s k hk).2; omega
  have HGB : Hid (B ≤ g) := Nat.le_trans (Nat.le_trans HB0.out HB2.out.size) hg1
  have f0 : w3.frozen? ⟨g, 0, none⟩ = false := hfz 0 (by show 0 < 2; decide)
  have f1 : w3.frozen? ⟨g, 1, none⟩ = false := hfz 1 (by show 1 < 2; decide)
  obtain ⟨(c0 : w3.cell? ⟨g, 0, none⟩ = _), (c1 : w3.cell? ⟨g, 1, none⟩ = _)⟩ := its_at harr 0 (by show 0 < 1; decide) _ _ rfl
  clear harr hb3 HS2 HB2 CI hg1 hg2 hfz
  go_upto_region 8 with fail
  clear f0 f1 c0 c1
  have HK4 : Hid (Kept (fun k => k = g) w3 ((w3.setCell ⟨g, 1, none⟩ (.string { data := #[111, 116, 104, 101, 114] })).setCell ⟨g, 0, none⟩ (.int .i64 0))) := (Kept.setCell (S := fun k => k = g) w3 ⟨g, 1, none⟩ _ rfl).trans (Kept.setCell (S := fun k => k = g) _ ⟨g, 0, none⟩ _ rfl)
  generalize (w3.setCell ⟨g, 1, none⟩ (.string { data := #[111, 116, 104, 101, 114] })).setCell ⟨g, 0, none⟩ (.int .i64 0) = w4 at *
  have HS4 := Lib.hid (HS3.out.far HK4.out HGS.out)
  have HB4 := Lib.hid (HB3.out.trans (HK4.out.below (Nat.le_trans HB0.out HB3.out.size) fun k e => e ▸ HGB.out))
  clear HS3 HB3 HK4 HGS HGB
  go_wp2_with (go_at_call 7; refine (niladd_any _ _ _ _).mono ?_; rintro e w5 ⟨rfl, rfl⟩)
  have CI := chitems_any 1 B 1 _ S2 w5 (by decide) (by decide) HS4.out.t
  rw [own_items] at CI
  refine CI.mono ?_
  rintro e w6 ⟨g6, c6, rfl, -, -, -, -, harr, -, hb6⟩
  have HB6 := Lib.hid (HB4.out.trans (hb6.mono (Nat.le_trans HB0.out HB4.out.size)))
  obtain ⟨(c0 : w6.cell? ⟨g6, 0, none⟩ = _), (c1 : w6.cell? ⟨g6, 1, none⟩ = _)⟩ := its_at harr 0 (by show 0 < 1; decide) _ _ rfl
  have HC : Hid (∀ W, Below w6.heap.size w6 W → W.cell? ⟨g6, 0, none⟩ = some (.int .i64 off) ∧ W.cell? ⟨g6, 1, none⟩ = some (.string t)) := fun W hW => by
    have hlt := World.block_lt_of_cell? w6 _ c0
    exact ⟨(hW.cell (p := ⟨g6, 0, none⟩) hlt).trans c0, (hW.cell (p := ⟨g6, 1, none⟩) hlt).trans c1⟩
  clear c0 c1 harr hb6 CI HS4 HB4
  go_wp2_with fail
  refine (chawake_any w6).mono ?_
  rintro e w7 ⟨rfl, hb7⟩
  obtain ⟨c0, c1⟩ := HC.out w7 hb7
  have HB7 := Lib.hid (HB6.out.trans (hb7.mono (Nat.le_trans HB0.out HB6.out.size)))
  have htt : (t.toList == t.toList) = true := beq_self_eq_true _
  have hoo : (off == off) = true := beq_self_eq_true _
  clear HC hb7 HB6
  go_wp2_with (first
    | (go_at_call 9; refine (nilrem_any _ _ _).mono ?_; rintro e w8 ⟨rfl, rfl⟩)
    | (go_at_call 14; refine (nilitems_any _ _).mono ?_; rintro e w8 ⟨rfl, rfl⟩)
    | (go_at_call 12; refine (nildrop_any _ _).mono ?_; rintro e w8 ⟨rfl, rfl⟩)
    | (go_at_call 16; refine (nilseqs_any _).mono ?_; rintro e w8 ⟨rfl, rfl⟩))
  go_ret
  exact ⟨rfl, HB7.out⟩
end Go.Proofs.Ytlhjofcpcccdpaa
