/-
  The walk of the statement on the last expiry of a key.
-/
import Derived.Test.YtkhmimdigdjajaaExAwake
set_option maxRecDepth 100000
namespace Go.Proofs.Ytkhmimdigdjajaa
open Go.RowKit Go.Maps
/-- One key's queue. -/
def Ex.one (k : ByteArray) (a : Int) : List Ex.On := if a < 1 then [] else [⟨k, a⟩]
theorem Ex.put_one (k : ByteArray) (a b : Int) : Ex.put (Ex.one k b) k a = Ex.one k a := by
  have h : Ex.rem (Ex.one k b) k = [] := by
    unfold Ex.one
    split
    · rfl
    · unfold Ex.rem; rw [List.filter_cons_of_neg (by simp)]; rfl
  unfold Ex.put Ex.one
  rw [show (if b < 1 then ([] : List Ex.On) else [⟨k, b⟩]) = Ex.one k b from rfl, h]
  rfl
theorem Ex.one_none {k : ByteArray} {a now : Int} (h : a < 1) : Ex.keys (Ex.due now (Ex.one k a)) = [] ∧ Ex.left now (Ex.one k a) = [] := by
  unfold Ex.one; rw [if_pos h]; exact ⟨rfl, rfl⟩
theorem Ex.one_due {k : ByteArray} {a now : Int} (h : 1 ≤ a) (h2 : a ≤ now) : Ex.keys (Ex.due now (Ex.one k a)) = [k] ∧ Ex.left now (Ex.one k a) = [] := by
  unfold Ex.one; rw [if_neg (by omega)]
  obtain ⟨e1, e2⟩ := Ex.due_cons_yes (x := ⟨k, a⟩) (L := []) h2
  rw [e1, e2]; exact ⟨rfl, rfl⟩
theorem Ex.one_left {k : ByteArray} {a now : Int} (h : 1 ≤ a) (h2 : now < a) : Ex.keys (Ex.due now (Ex.one k a)) = [] ∧ Ex.left now (Ex.one k a) = [⟨k, a⟩] := by
  unfold Ex.one; rw [if_neg (by omega)]
  obtain ⟨e1, e2⟩ := Ex.due_cons_no (x := ⟨k, a⟩) (L := []) (show ¬ a ≤ now by omega)
  rw [e1, e2]; exact ⟨rfl, rfl⟩
set_option maxHeartbeats 4000000 in
theorem exlast_any (k : ByteArray) (A : Option Addr) (n c : Nat) (l : List Int) (now : Int) (w : World) (hs : SlIs A n c) (hl : Hid (l.length = n)) (hb : Hid (Arr intS w 0 w.heap.size A l)) :
    Calls Try.prog 6 #[.string k, .slice A n c, .int .i64 now] w fun e w' => e = .returned (.bool true) ∧ Below w.heap.size w w' := by
  have hcap := hs.2.2
  have hnc := hs.2.1
  obtain ⟨B, hB⟩ : ∃ B, w.heap.size = B := ⟨_, rfl⟩
  have CN := Lib.hid (exnew_any w)
  rw [hB] at hb CN
  rw [hB]
  have HB0 : Hid (B ≤ w.heap.size) := Nat.le_of_eq hB.symm
  obtain ⟨m, hm⟩ : ∃ m, m = min k.size 10 := ⟨_, rfl⟩
  have hmi : min (k.size : Int) 10 = (m : Int) := by omega
  have hmi2 : (if (10 : Int) < (k.size : Int) then (10 : Int) else (k.size : Int)) = (m : Int) := by split <;> omega
  have hm1 : m ≤ k.size := by omega
  have hcut : k.extract 0 m = ten k := by rw [hm]; rfl
  have HTS := Lib.hid (ten_size k)
  clear hm hB
  go_enter Try.func6, Try.ntmps6
  go_upto_region 2 with fail
  clear hmi hmi2 hm1
  generalize ten k = t at *
  clear hcut
  go_wp2_with fail
  refine CN.out.mono ?_
  rintro e w1 ⟨rfl, hb1, -, hT1⟩
  have HB1 := Lib.hid hb1
  have HS1 : Hid (QSt B w1 B (fun k => k = B) 0 (Ex.one t 0)) := ⟨fun k e => by rw [e]; exact ⟨Nat.le_refl _, hT1.lt⟩, hT1⟩
  clear hb1 hT1 CN
  go_upto_block 0 with fail
  go_cut [8] (fun lv wx => ∃ last : Int, lv = .int .i64 last ∧ Hid (∃ S, QSt B wx B S 12 (Ex.one t last)) ∧ Hid (Below B w wx))
  case first =>
    go_wp2_with fail
    go_loopw [8, 9] (fun lv iv wr => ∃ (k : Nat) (last : Int), k ≤ n ∧ k ≤ 12 ∧ lv = .int .i64 last ∧ iv = .int .i64 (k : Int) ∧ Hid (∃ S, QSt B wr B S k (Ex.one t last)) ∧ Hid (Below B w wr)) (fun _ i _ => n - (Go.RowKit.intOf i).toNat)
    case atStart => exact ⟨0, 0, Nat.zero_le _, Nat.zero_le _, rfl, rfl, ⟨_, HS1.out⟩, HB1⟩
    case round =>
      clear HS1 HB1
      obtain ⟨k, last, hk, hk2, rfl, rfl, hstt, hbel⟩ := hrel
      obtain ⟨S, hst⟩ := hstt.out
      have HS := Lib.hid hst
      have HZ : Hid (B ≤ wr.heap.size) := Nat.le_trans HB0.out hbel.out.size
      clear hstt hst
      by_cases hlt : k < n ∧ k < 12
      · obtain ⟨hlt, hlt2⟩ := hlt
        obtain ⟨ad, rfl⟩ := hb.out.some (k := k) (by rw [hl.out]; exact hlt)
        obtain ⟨a, ha⟩ : ∃ a, l.getD k 0 = a := ⟨_, rfl⟩
        have m0 := ints_at (hb.out.below hbel.out (Nat.le_refl _)) k (by rw [hl.out]; exact hlt)
        rw [ha] at m0
        have CP := Lib.hid (exput_any k B t a (Ex.one t last) S wr (by omega) HTS.out (Lib.hid HS.out.t))
        go_wp2_with fail
        refine CP.out.mono ?_
        rintro e w2 ⟨rfl, hk3, hT3⟩
        rw [Ex.put_one] at hT3
        have HS3 := Lib.hid (HS.out.snc HZ.out hk3 hT3)
        have HB3 := Lib.hid (hbel.out.trans (HS.out.below HZ.out hk3))
        clear m0 hk3 hT3 CP HS hbel
        have m0 := ints_at (hb.out.below HB3.out (Nat.le_refl _)) k (by rw [hl.out]; exact hlt)
        rw [ha] at m0
        clear ha
        go_wp2_with fail
        go_roundw
        case rel => exact ⟨k + 1, a, by omega, by omega, rfl, by go_num, ⟨_, HS3.out⟩, HB3⟩
        case measure => simp [Go.RowKit.intOf]; omega
      · have HE : Hid (∃ S, QSt B wr B S 12 (Ex.one t last)) := ⟨S, HS.out.s, HS.out.t.more hk2⟩
        clear HS
        by_cases hlt2 : k < n
        · have h12 : k = 12 := by omega
          have hd : decide ((k : Int) < 12) = false := decide_eq_false (by omega)
          clear hlt
          go_wp2_with fail
          go_meet
          exact ⟨last, rfl, HE, hbel⟩
        · clear hlt
          go_wp2_with fail
          go_meet
          exact ⟨last, rfl, HE, hbel⟩
  case rest =>
    clear HS1 HB1
    obtain ⟨last, rfl, hS, hB2⟩ := hcut
    obtain ⟨S, hst⟩ := hS.out
    generalize wc = w2 at *
    have HS2 := Lib.hid hst
    have HZ2 : Hid (B ≤ w2.heap.size) := Nat.le_trans HB0.out hB2.out.size
    clear hS hst hb hl
    have CD := Lib.hid (exdue_any 12 B now _ S w2 (by decide) (Lib.hid HS2.out.t))
    go_wp2_with fail
    refine CD.out.mono ?_
    rintro e w3 ⟨v, rfl, hr3, hk3, hT3⟩
    have HS3 := Lib.hid (HS2.out.same hk3 hT3)
    have HB3 := Lib.hid (hB2.out.trans (HS2.out.below HZ2.out hk3))
    have HZ3 : Hid (B ≤ w3.heap.size) := Nat.le_trans HB0.out HB3.out.size
    have CA := Lib.hid (exawake_any w3)
    clear hk3 hT3 HS2 hB2 CD
    rcases (show last < 1 ∨ (1 ≤ last ∧ last ≤ now) ∨ (1 ≤ last ∧ now < last) by omega) with h1 | ⟨h1, h2⟩ | ⟨h1, h2⟩
    · obtain ⟨e1, e2⟩ := Ex.one_none (k := t) (now := now) h1
      rw [e1] at hr3
      rw [e2] at HS3
      obtain ⟨A3, c3, rfl, -, harr⟩ := hr3.open_
      clear hr3 e1 e2 harr
      go_wp2_with fail
      refine CA.out.mono ?_
      rintro e w4 ⟨rfl, hb4⟩
      have HS4 := Lib.hid (HS3.out.next hb4)
      have HB4 := Lib.hid (HB3.out.trans (hb4.mono HZ3.out))
      have CL := Lib.hid (exlen_any 12 B 0 [] S w4 rfl (Lib.hid HS4.out.t))
      clear hb4 CA
      go_wp2_with fail
      refine CL.out.mono ?_
      rintro e w5 ⟨rfl, rfl⟩
      go_wp2_with fail
      go_ret
      first | exact ⟨rfl, HB4.out⟩ | exact ⟨ret_bool (by simp; omega), HB4.out⟩
    · obtain ⟨e1, e2⟩ := Ex.one_due (k := t) h1 h2
      rw [e1] at hr3
      rw [e2] at HS3
      obtain ⟨g, c3, rfl, -, harr⟩ := hr3.box (Nat.lt_succ_self _)
      have HAR := Lib.hid harr
      clear hr3 e1 e2 harr
      go_wp2_with fail
      refine CA.out.mono ?_
      rintro e w4 ⟨rfl, hb4⟩
      have HS4 := Lib.hid (HS3.out.next hb4)
      have HB4 := Lib.hid (HB3.out.trans (hb4.mono HZ3.out))
      have m0 := strs_at (HAR.out.below hb4 (Nat.le_refl _)) 0 (Nat.lt_succ_self _) t rfl
      rw [arr_flat, Nat.zero_add] at m0
      have CL := Lib.hid (exlen_any 12 B 0 [] S w4 rfl (Lib.hid HS4.out.t))
      clear hb4 CA
      go_wp2_with fail
      refine CL.out.mono ?_
      rintro e w5 ⟨rfl, rfl⟩
      go_wp2_with fail
      go_ret
      first | exact ⟨rfl, HB4.out⟩ | exact ⟨ret_bool (by simp; omega), HB4.out⟩
    · obtain ⟨e1, e2⟩ := Ex.one_left (k := t) h1 h2
      rw [e1] at hr3
      rw [e2] at HS3
      obtain ⟨A3, c3, rfl, -, harr⟩ := hr3.open_
      clear hr3 e1 e2 harr
      go_wp2_with fail
      refine CA.out.mono ?_
      rintro e w4 ⟨rfl, hb4⟩
      have HS4 := Lib.hid (HS3.out.next hb4)
      have HB4 := Lib.hid (HB3.out.trans (hb4.mono HZ3.out))
      have CL := Lib.hid (exlen_any 12 B 1 [⟨t, last⟩] S w4 rfl (Lib.hid HS4.out.t))
      clear hb4 CA
      go_wp2_with fail
      refine CL.out.mono ?_
      rintro e w5 ⟨rfl, rfl⟩
      go_wp2_with fail
      go_ret
      first | exact ⟨rfl, HB4.out⟩ | exact ⟨ret_bool (by simp; omega), HB4.out⟩
end Go.Proofs.Ytkhmimdigdjajaa
