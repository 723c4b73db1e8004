/-
  The walk of the statement on Places and Work.
-/
import Derived.Test.YtflnjippknpflaaTbLaw
set_option maxRecDepth 100000
namespace Go.Proofs.Ytflnjippknpflaa
open Go.RowKit
/-- A call of the laws. -/
structure TOp where
  kind : Int
  key : Int
  e : Tb.En
def topc (p : TOp) : List Value := [.int .i64 p.kind, .int .i64 p.key, .int .i64 p.e.seq, .int .i64 p.e.off, .int .i64 p.e.len, .int .i64 p.e.exp, .bool p.e.hit]
def opS : Shape TOp := ⟨topc, ⟨0, 0, Tb.En0⟩, 7, fun _ => rfl, by decide, fun r u hu => by
  simp only [topc, List.mem_cons, List.not_mem_nil, or_false] at hu
  rcases hu with rfl | rfl | rfl | rfl | rfl | rfl | rfl <;> rfl⟩
/-- The cells of one call of a slice, as a load spells them. -/
theorem ops_at {w : World} {lo B : Nat} {ad : Addr} {l : List TOp} (h : Arr opS w lo B (some ad) l) (k : Nat) (hk : k < l.length) (r : TOp) (e : l.getD k opS.z = r) :
    w.cell? (ad.add (k * 7)) = some (.int .i64 r.kind) ∧ w.cell? ⟨(ad.add (k * 7)).block, (ad.add (k * 7)).off + 1, none⟩ = some (.int .i64 r.key) ∧ w.cell? ⟨(ad.add (k * 7)).block, (ad.add (k * 7)).off + 2, none⟩ = some (.int .i64 r.e.seq) ∧ w.cell? ⟨(ad.add (k * 7)).block, (ad.add (k * 7)).off + 3, none⟩ = some (.int .i64 r.e.off) ∧
    w.cell? ⟨(ad.add (k * 7)).block, (ad.add (k * 7)).off + 4, none⟩ = some (.int .i64 r.e.len) ∧ w.cell? ⟨(ad.add (k * 7)).block, (ad.add (k * 7)).off + 5, none⟩ = some (.int .i64 r.e.exp) ∧ w.cell? ⟨(ad.add (k * 7)).block, (ad.add (k * 7)).off + 6, none⟩ = some (.bool r.e.hit) := by
  have h4 : ∀ j v, (topc r)[j]? = some v → w.cell? (ad.add (k * 7 + j)) = some v := fun j v hv => h.cell k hk j v (by rw [show l.getD k opS.z = r from e]; exact hv)
  have g : ∀ i, 0 < i → ∀ v, (topc r)[i]? = some v → w.cell? ⟨(ad.add (k * 7)).block, (ad.add (k * 7)).off + i, none⟩ = some v := fun i hi v hv => by
    have := h4 i v hv
    rwa [at_field _ _ _ hi] at this
  exact ⟨h4 0 _ rfl, g 1 (by decide) _ rfl, g 2 (by decide) _ rfl, g 3 (by decide) _ rfl, g 4 (by decide) _ rfl, g 5 (by decide) _ rfl, g 6 (by decide) _ rfl⟩
theorem pow_and (p b : Nat) (h : p = 2 ^ b) (hp : p ≤ 1073741824) : bits .and .i64 (p : Int) ((p : Int) - 1) = 0 := by
  have h0 : 0 < p := by rw [h]; exact Nat.two_pow_pos b
  have e2 : (p : Int) - 1 = ((p - 1 : Nat) : Int) := by omega
  have h1 : (BitVec.ofInt 64 (p : Int)).toNat = p := by rw [BitVec.ofInt_natCast, BitVec.toNat_ofNat]; exact Nat.mod_eq_of_lt (by omega)
  have h2 : (BitVec.ofInt 64 ((p - 1 : Nat) : Int)).toNat = p - 1 := by rw [BitVec.ofInt_natCast, BitVec.toNat_ofNat]; exact Nat.mod_eq_of_lt (by omega)
  have h3 : p &&& (p - 1) = 0 := by
    have := Nat.and_two_pow_sub_one_eq_mod p b
    rw [← h, Nat.mod_self] at this
    exact this
  rw [e2]
  show IntKind.i64.wrap ((BitVec.ofInt 64 (p : Int) &&& BitVec.ofInt 64 ((p - 1 : Nat) : Int)).toNat : Int) = _
  rw [BitVec.toNat_and, h1, h2, h3]
  rfl
set_option maxHeartbeats 4000000 in
theorem tablework_any (A : Option Addr) (n cap : Nat) (l : List TOp) (w : World) (hs : SlIs A n cap) (hl : Hid (l.length = n)) (hb : Hid (Arr opS w 0 w.heap.size A l)) :
    Calls Try.prog 4 #[.slice A n cap] w fun e w' => e = .returned (.bool true) ∧ Below w.heap.size w w' := by
  have hcap := hs.2.2
  have hnc := hs.2.1
  have CN := Lib.hid (tnew_any 121 w.heap.size w (Nat.le_refl _))
  obtain ⟨B, hB⟩ : ∃ B, w.heap.size = B := ⟨_, rfl⟩
  obtain ⟨q, hq⟩ : ∃ q, w.heap.size = q := ⟨_, rfl⟩
  rw [hB] at hb
  have HB := Lib.hid hB
  have CN : Hid (Calls Try.prog 8 #[] w fun e w' => e = .returned (.pointer (some ⟨q, 0, none⟩)) ∧ Below B w w' ∧ (∀ k, k = q → B ≤ k ∧ k < w'.heap.size) ∧ Tab 121 w' (fun k => k = q) q (fun _ _ => False) 0 0) := by
    have := CN.out
    rw [hB] at this
    rw [← hq, hB]
    exact this
  rw [hB]
  clear hB hq
  go_enter Try.func4, Try.ntmps4
  go_wp2_with fail
  refine CN.out.mono ?_
  rintro e w1 ⟨rfl, hb1, hS1, hT1⟩
  have HB1 := Lib.hid hb1
  have HS1 := Lib.hid hS1
  have HT1 := Lib.hid hT1
  clear hb1 hS1 hT1 CN
  go_wp2_with fail
  go_loopw [4] (fun iv wr => ∃ k : Nat, k ≤ n ∧ k ≤ 120 ∧ iv = .int .i64 (k : Int) ∧ Hid (∃ S H c wk, (∀ k, S k → B ≤ k ∧ k < wr.heap.size) ∧ Tab 121 wr S q H c wk ∧ c ≤ k) ∧ Hid (Below B w wr)) (fun i _ => n - (Go.RowKit.intOf i).toNat)
  case atStart => exact ⟨0, Nat.zero_le _, Nat.zero_le _, rfl, ⟨_, _, 0, 0, HS1.out, HT1.out, Nat.le_refl _⟩, HB1.out⟩
  case round =>
    obtain ⟨k, hk, hk2, rfl, hst, hbel⟩ := hrel
    by_cases hlt : k < n ∧ k < 120
    · obtain ⟨hlt, hlt2⟩ := hlt
      have hd0 : decide ((k : Int) < 120) = true := decide_eq_true (by omega)
      obtain ⟨S2, H2, c3, wk2, hS2, hT2, hC2⟩ := hst.out
      have HC := Lib.hid hC2
      obtain ⟨ad, rfl⟩ := hb.out.some (k := k) (by rw [hl.out]; exact hlt)
      obtain ⟨⟨kd, ky, ⟨o0, o1, o2, o3, o4⟩⟩, HX⟩ : ∃ p, Hid (l.getD k opS.z = p) := ⟨_, rfl⟩
      obtain ⟨m0, m1, m2, m3, m4, m5, m6⟩ := ops_at (hb.out.below hbel.out (Nat.le_refl _)) k (by rw [hl.out]; exact hlt) _ HX.out
      simp only at m0 m1 m2 m3 m4 m5 m6
      go_wp2_with fail
      refine (name_any ky wr).mono ?_
      rintro e w3 ⟨m, hm1, -, rfl, hb3⟩
      have HB3 : Hid (Below B w w3) := hbel.out.trans (hb3.mono (HB.out ▸ hbel.out.size))
      have HT3 := Lib.hid (hT2.next hb3)
      have HS3 : Hid (∀ k, S2 k → B ≤ k ∧ k < w3.heap.size) := fun k h => ⟨(hS2 k h).1, Nat.lt_of_lt_of_le (hS2 k h).2 hb3.size⟩
      have HZ3 : Hid (B ≤ w3.heap.size) := by show _ ≤ _; have := HB3.out.size; have := HB.out; omega
      clear hb3 hT2 hS2 hC2 hst m0 m1 m2 m3 m4 m5 m6
      obtain ⟨m0, m1, m2, m3, m4, m5, m6⟩ := ops_at (hb.out.below HB3.out (Nat.le_refl _)) k (by rw [hl.out]; exact hlt) _ HX.out
      simp only at m0 m1 m2 m3 m4 m5 m6
      clear hbel
      obtain ⟨wk3, rfl⟩ : ∃ x, x = wk2 := ⟨_, rfl⟩
      obtain ⟨S3, rfl⟩ : ∃ x, x = S2 := ⟨_, rfl⟩
      rcases (show kd = 0 ∨ kd = 1 ∨ (kd ≠ 0 ∧ kd ≠ 1) by omega) with h0 | h0 | ⟨h0, h1⟩
      · subst h0
        go_wp2_with fail
        refine (tset_any 121 B q c3 wk3 (nm m) o0 o1 o2 o3 o4 _ S3 w3 HZ3.out (by decide) (nm_size m) (by have := HC.out; omega) HS3.out HT3.out).mono ?_
        rintro e w4 ⟨rfl, S4, c4, wk4, hn4, hcc, hT4, hwk4⟩
        have HS4 := Lib.hid hn4.own
        have HT4 := Lib.hid hT4
        have HB4 := Lib.hid (HB3.out.trans hn4.below)
        have HC4 : Hid (c4 ≤ k + 1) := by
          show _ ≤ _
          have := HC.out
          rcases hcc with ⟨_, h⟩ | ⟨_, h⟩ <;> omega
        have HW4 := Lib.hid hwk4
        clear hn4 hT4 hwk4 hcc
        obtain ⟨p, b, hpb, hp8, hp9, hpc, CP⟩ := tplaces_any 121 q c4 wk4 _ S4 w4 (by decide) HT4.out
        have CP := Lib.hid CP
        have CL := Lib.hid (tlen_any 121 q c4 wk4 _ S4 w4 HT4.out)
        have CW := Lib.hid (twork_any 121 q c4 wk4 _ S4 w4 HT4.out)
        have hand := pow_and p b hpb hp9
        have hd1 : decide ((p : Int) < 8) = false := decide_eq_false (by omega)
        have hd2 : decide (3 * (p : Int) < 4 * (c4 : Int)) = false := decide_eq_false (by omega)
        have hd3 : decide ((wk4 : Int) < 0) = false := decide_eq_false (by omega)
        have hd4 : decide ((8 : Int) < (wk4 : Int)) = false := decide_eq_false (by have := HW4.out; omega)
        have hc9 : c4 ≤ 121 := by have := HC4.out; omega
        clear hpb hpc
        go_wp2_with fail
        refine CP.out.mono ?_
        rintro e w' ⟨rfl, rfl⟩
        go_wp2_with fail
        refine CL.out.mono ?_
        rintro e w' ⟨rfl, rfl⟩
        go_wp2_with fail
        refine CW.out.mono ?_
        rintro e w' ⟨rfl, rfl⟩
        go_wp2_with fail
        refine CW.out.mono ?_
        rintro e w' ⟨rfl, rfl⟩
        go_wp2_with fail
        go_roundw
        case rel => exact ⟨k + 1, by omega, by omega, by go_num, ⟨S4, _, c4, wk4, HS4.out, HT4.out, HC4.out⟩, HB4.out⟩
        case measure => simp [Go.RowKit.intOf]; omega
      · subst h0
        go_wp2_with fail
        refine (tget_any 121 B q c3 wk3 (nm m) _ S3 w3 HZ3.out (by decide) (nm_size m) HS3.out HT3.out).mono ?_
        rintro e w4 ⟨a0, a1, a2, a3, a4, y, rfl, hxy, hn4, wk4, hT4, hwk4⟩
        have HS4 := Lib.hid hn4.own
        have HT4 := Lib.hid hT4
        have HB4 := Lib.hid (HB3.out.trans hn4.below)
        have HC4 : Hid (c3 ≤ k + 1) := by show _ ≤ _; have := HC.out; omega
        have HW4 := Lib.hid hwk4
        clear hn4 hT4 hwk4 hxy
        obtain ⟨p, b, hpb, hp8, hp9, hpc, CP⟩ := tplaces_any 121 q c3 wk4 _ S3 w4 (by decide) HT4.out
        have CP := Lib.hid CP
        have CL := Lib.hid (tlen_any 121 q c3 wk4 _ S3 w4 HT4.out)
        have CW := Lib.hid (twork_any 121 q c3 wk4 _ S3 w4 HT4.out)
        have hand := pow_and p b hpb hp9
        have hd1 : decide ((p : Int) < 8) = false := decide_eq_false (by omega)
        have hd2 : decide (3 * (p : Int) < 4 * (c3 : Int)) = false := decide_eq_false (by omega)
        have hd3 : decide ((wk4 : Int) < 0) = false := decide_eq_false (by omega)
        have hd4 : decide ((8 : Int) < (wk4 : Int)) = false := decide_eq_false (by have := HW4.out; omega)
        have hc9 : c3 ≤ 121 := by have := HC4.out; omega
        clear hpb hpc
        go_wp2_with fail
        refine CP.out.mono ?_
        rintro e w' ⟨rfl, rfl⟩
        go_wp2_with fail
        refine CL.out.mono ?_
        rintro e w' ⟨rfl, rfl⟩
        go_wp2_with fail
        refine CW.out.mono ?_
        rintro e w' ⟨rfl, rfl⟩
        go_wp2_with fail
        refine CW.out.mono ?_
        rintro e w' ⟨rfl, rfl⟩
        go_wp2_with fail
        go_roundw
        case rel => exact ⟨k + 1, by omega, by omega, by go_num, ⟨S3, _, c3, wk4, HS4.out, HT4.out, HC4.out⟩, HB4.out⟩
        case measure => simp [Go.RowKit.intOf]; omega
      · have hb0 : (kd == 0) = false := beq_eq_false_iff_ne.2 h0
        have hb1 : (kd == 1) = false := beq_eq_false_iff_ne.2 h1
        clear h0 h1
        go_wp2_with fail
        refine (tdel_any 121 B q c3 wk3 (nm m) _ S3 w3 HZ3.out (by decide) (nm_size m) HS3.out HT3.out).mono ?_
        rintro e w4 ⟨y, c4, wk4, rfl, hcc, hn4, hT4, hwk4⟩
        have HS4 := Lib.hid hn4.own
        have HT4 := Lib.hid hT4
        have HB4 := Lib.hid (HB3.out.trans hn4.below)
        have HC4 : Hid (c4 ≤ k + 1) := by
          show _ ≤ _
          have := HC.out
          rcases hcc with ⟨_, _, h⟩ | ⟨_, _, h⟩ <;> omega
        have HW4 := Lib.hid hwk4
        clear hn4 hT4 hwk4 hcc
        obtain ⟨p, b, hpb, hp8, hp9, hpc, CP⟩ := tplaces_any 121 q c4 wk4 _ S3 w4 (by decide) HT4.out
        have CP := Lib.hid CP
        have CL := Lib.hid (tlen_any 121 q c4 wk4 _ S3 w4 HT4.out)
        have CW := Lib.hid (twork_any 121 q c4 wk4 _ S3 w4 HT4.out)
        have hand := pow_and p b hpb hp9
        have hd1 : decide ((p : Int) < 8) = false := decide_eq_false (by omega)
        have hd2 : decide (3 * (p : Int) < 4 * (c4 : Int)) = false := decide_eq_false (by omega)
        have hd3 : decide ((wk4 : Int) < 0) = false := decide_eq_false (by omega)
        have hd4 : decide ((8 : Int) < (wk4 : Int)) = false := decide_eq_false (by have := HW4.out; omega)
        have hc9 : c4 ≤ 121 := by have := HC4.out; omega
        clear hpb hpc
        go_wp2_with fail
        refine CP.out.mono ?_
        rintro e w' ⟨rfl, rfl⟩
        go_wp2_with fail
        refine CL.out.mono ?_
        rintro e w' ⟨rfl, rfl⟩
        go_wp2_with fail
        refine CW.out.mono ?_
        rintro e w' ⟨rfl, rfl⟩
        go_wp2_with fail
        refine CW.out.mono ?_
        rintro e w' ⟨rfl, rfl⟩
        go_wp2_with fail
        go_roundw
        case rel => exact ⟨k + 1, by omega, by omega, by go_num, ⟨S3, _, c4, wk4, HS4.out, HT4.out, HC4.out⟩, HB4.out⟩
        case measure => simp [Go.RowKit.intOf]; omega
    · have HZ : Hid (Below w.heap.size w wr) := HB.out ▸ hbel.out
      rcases Nat.lt_or_ge k n with h | h
      · have h2 : ¬ k < 120 := fun h2 => hlt ⟨h, h2⟩
        have hd0 : decide ((k : Int) < 120) = false := decide_eq_false (by omega)
        clear hlt
        go_wp2_with fail
        refine (tbawake_any wr).mono ?_
        rintro e w3 ⟨rfl, hb3⟩
        have HB3 := Lib.hid (hbel.out.trans (hb3.mono (HB.out ▸ HZ.out.size)))
        clear hb3
        go_wp2_with fail
        go_ret
        exact ⟨rfl, HB3.out⟩
      · have hd0 : ¬ k < n := by omega
        clear hlt
        go_wp2_with fail
        refine (tbawake_any wr).mono ?_
        rintro e w3 ⟨rfl, hb3⟩
        have HB3 := Lib.hid (hbel.out.trans (hb3.mono (HB.out ▸ HZ.out.size)))
        clear hb3
        go_wp2_with fail
        go_ret
        exact ⟨rfl, HB3.out⟩
end Go.Proofs.Ytflnjippknpflaa
