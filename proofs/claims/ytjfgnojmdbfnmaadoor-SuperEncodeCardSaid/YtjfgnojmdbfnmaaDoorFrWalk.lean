/-
  The walks of frame.isPlace, frame.checksum and frame.Encode.
-/
import Derived.Test.YtjfgnojmdbfnmaaDoorFrMath
import Derived.Test.YtjfgnojmdbfnmaaDoorCrcLaws
import Derived.Test.YtjfgnojmdbfnmaaDoorWirePut
import Derived.Test.YtjfgnojmdbfnmaaDoorSmall
import Derived.Deep.DeepCutAuto
import Derived.Deep.CutBlock
namespace Go.Proofs.YtjfgnojmdbfnmaaDoor
open Go.RowKit

theorem isplace_any (k s x : Int) (w : World) : Calls Tryd.prog 41 #[.int .i64 k, .int .i64 s, .int .i64 x] w fun e w' => e = .returned (.bool (decide (Fr.may k s x))) ∧ w = w' := by
  go_enter Tryd.func41, Tryd.ntmps41
  go_wp2
  all_goals
    go_ret
    refine ⟨ret_bool ?_, rfl⟩
    first
      | exact (decide_eq_false (by unfold Fr.may; omega)).symm
      | exact decide_eq_decide.2 (by unfold Fr.may; omega)
/-- wire.Put of a slice that lies anywhere. -/
theorem put_row (A : Option Addr) (B n c : Nat) (l : List Nat) (N m : Nat) (mi : Int) (hmi : mi = (m : Int)) (w : World) (hs : SlIs A n c) (hl : l.length = n) (hn : n ≤ 70368744177664) (hb : Bs w B A l) (hm : 1 ≤ m) (hm8 : m ≤ 8) :
    Calls Tryd.prog 42 #[.slice A n c, .int .u64 (N : Int), .int .i64 mi] w fun e w' => ∃ A' n' c' p, e = .returned (.slice A' n' c') ∧ Hid (p = l ++ Wire.be m N) ∧ Hid (n' = n + m) ∧ Row w p n' A' c' w' := by
  refine (put_ok A B n c l N m mi hmi w hs.1 hl hn hb hm hm8).mono ?_
  rintro e w' ⟨v, rfl, hown, hbel⟩
  obtain ⟨A', c', rfl, hbs, hl2, hn2, hm2, ho2⟩ := own_bytes hown (fun y hy => by
    rcases List.mem_append.1 hy with h | h
    · exact hb.lt y h
    · exact Wire.be_lt _ _ y h)
  exact ⟨A', _, c', _, rfl, rfl, by show _ = _; rw [List.length_append, Wire.be_length, hl], hown, rfl, sl_own hn2 hm2 ho2, hbs, hbel⟩
theorem sl_nil : SlIs none 0 0 := ⟨fun _ => ⟨rfl, rfl⟩, Nat.le_refl _, by decide⟩
theorem bs_nil (w : World) (B : Nat) : Bs w B none [] := fun k hk => absurd hk (by simp)
theorem frsum_any (sa se : Nat) (A : Option Addr) (B n c : Nat) (l : List Nat) (w : World) (hsa : sa < 9223372036854775808) (hse : se < 1048576) (hB : B ≤ w.heap.size) (hl : Hid (l.length = n)) (hn : n ≤ 9223372036854775807) (hb : Hid (Bs w B A l)) (ht : Hid (TabW w)) (hz : 0 < w.heap.size) :
    Calls Tryd.prog 43 #[.int .i64 (sa : Int), .int .i64 (se : Int), .slice A n c] w fun e w' => e = .returned (.int .u32 (Crc.U (Crc.upd 0#32 (Rc.spot (sa : Int) (se : Int) ++ l)) : Int)) ∧ Below w.heap.size w w' := by
  have HSP : Hid (Rc.spot (sa : Int) (se : Int) = Wire.be 8 sa ++ Wire.be 4 se) := Fr.spot_eq _ _
  have HP1 := Lib.hid (put_row none 0 0 0 [] sa 8 8 rfl w sl_nil rfl (by decide) (bs_nil _ _) (by decide) (by decide))
  go_enter Tryd.func43, Tryd.ntmps43
  go_wp2_with fail
  refine HP1.out.mono ?_
  rintro e w1 ⟨A1, n1, c1, p1, rfl, hp1, hn1, hr1⟩
  have HR1 := Lib.hid hr1
  have h8 : n1 = 8 := hn1.out
  subst h8
  clear hr1
  go_wp2_with fail
  refine (put_row A1 w1.heap.size 8 c1 p1 se 4 4 rfl w1 HR1.out.2.2.1 HR1.out.2.1 (by decide) HR1.out.2.2.2.1 (by decide) (by decide)).mono ?_
  rintro e w2 ⟨A2, n2, c2, p2, rfl, hp2, hn2, hr2⟩
  have h12 : n2 = 12 := hn2.out
  subst h12
  have HB2 : Hid (Below w.heap.size w w2) := HR1.out.2.2.2.2.trans (hr2.2.2.2.2.mono HR1.out.2.2.2.2.size)
  have HT2 : Hid (TabW w2) := ht.out.below HB2.out hz
  have HP2 : Hid (p2 = Rc.spot (sa : Int) (se : Int)) := by
    show _ = _
    rw [HSP.out, hp2.out, hp1.out, List.nil_append]
  have HS2 := Lib.hid (sum_any A2 w2.heap.size c2 12 p2 w2 hr2.2.1 (by decide) hr2.2.2.2.1 HT2)
  have HU2 : Hid (∀ c0, Calls Tryd.prog 64 #[.int .u32 (Crc.U c0 : Int), .slice A n c] w2 fun e w' => e = .returned (.int .u32 (Crc.U (Crc.upd c0 l) : Int)) ∧ w2 = w') := fun c0 =>
    update_any _ c0 rfl A B c n l w2 hl hn (hb.out.below HB2.out hB) HT2
  clear hr2 hp2 hp1 hn1 hn2
  go_wp2_with fail
  refine HS2.out.mono ?_
  rintro e w' ⟨rfl, rfl⟩
  go_wp2_with fail
  refine (HU2.out _).mono ?_
  rintro e w' ⟨rfl, rfl⟩
  go_wp2
  go_ret
  rw [← HP2.out, Crc.upd_append]
  exact ⟨rfl, HB2.out⟩
/-- What Encode leaves: the error, and the bytes in a row of their own where there is none. -/
def FrEnc (w : World) (b : List Nat) (er : Int) (e : Ending) (w' : World) : Prop :=
  ∃ A' n' c', e = .returned (.tuple #[.slice A' n' c', .int .i64 er]) ∧ SlIs A' n' c' ∧ (er = 0 → n' = 64 ∧ w'.ownsRow w.heap.size 5 1 (.slice A' 64 c') 64 (vals b)) ∧ (er ≠ 0 → n' = 0) ∧ Below w.heap.size w w'
theorem frencode_early (k s x : Int) (A : Option Addr) (n c : Nat) (w : World) (h : ¬ Fr.may k s x ∨ 59 < n) :
    Calls Tryd.prog 20 #[.int .i64 k, .int .i64 s, .int .i64 x, .slice A n c] w (FrEnc w [] (if Fr.may k s x then 3 else 2)) := by
  by_cases hm : Fr.may k s x
  · have hn : decide ((59 : Int) < (n : Int)) = true := by
      have h2 := h.resolve_left (fun e => e hm)
      simp; omega
    have HP : Hid (∀ W, Calls Tryd.prog 41 #[.int .i64 k, .int .i64 s, .int .i64 x] W fun e w' => e = .returned (.bool true) ∧ W = w') := fun W => by
      have h := isplace_any k s x W
      rwa [decide_eq_true hm] at h
    rw [if_pos hm]
    clear h hm
    go_enter Tryd.func20, Tryd.ntmps20
    go_wp2_with fail
    refine (HP.out _).mono ?_
    rintro e w' ⟨rfl, rfl⟩
    go_wp2
    go_ret2
    exact ⟨none, 0, 0, rfl, sl_nil, fun e => absurd e (by decide), fun _ => rfl, Below.refl _ _⟩
  · have HP : Hid (∀ W, Calls Tryd.prog 41 #[.int .i64 k, .int .i64 s, .int .i64 x] W fun e w' => e = .returned (.bool false) ∧ W = w') := fun W => by
      have h := isplace_any k s x W
      rwa [decide_eq_false hm] at h
    rw [if_neg hm]
    clear h hm
    go_enter Tryd.func20, Tryd.ntmps20
    go_wp2_with fail
    refine (HP.out _).mono ?_
    rintro e w' ⟨rfl, rfl⟩
    go_wp2
    go_ret2
    exact ⟨none, 0, 0, rfl, sl_nil, fun e => absurd e (by decide), fun _ => rfl, Below.refl _ _⟩
theorem splice_body (kd : Nat) (l : List Nat) (n : Nat) (hl : l.length = n) : splice (vals (kd :: List.replicate 59 0)) 1 (vals l) = vals (Fr.body (kd : Int) l) := by
  have e1 : vals (kd :: List.replicate 59 0) = .int .u8 ((kd : Nat) : Int) :: vals (List.replicate 59 0) := rfl
  have e2 : (vals (List.replicate 59 0)).drop n = vals (List.replicate (59 - n) 0) := by
    unfold vals
    rw [← List.map_drop, List.drop_replicate]
  have e3 : vals (Fr.body (kd : Int) l) = .int .u8 ((kd : Nat) : Int) :: (vals l ++ vals (List.replicate (59 - n) 0)) := by
    unfold Fr.body
    rw [hl, Int.toNat_natCast, ← vals_append]; rfl
  unfold splice
  rw [vals_length, hl, e1, e3, Nat.add_comm 1 n, List.drop_succ_cons, e2]; rfl
set_option maxHeartbeats 1000000 in
theorem frencode_ok (kd sa se : Nat) (A : Option Addr) (B n c : Nat) (l : List Nat) (w : World) (hk : 1 ≤ kd ∧ kd ≤ 4) (hsa : sa < 9223372036854775808) (hse : se < 1048576) (hB : B ≤ w.heap.size) (hs : SlIs A n c) (hl : Hid (l.length = n)) (hn : n ≤ 59) (hb : Hid (Bs w B A l)) (ht : Hid (TabW w)) (hz : 0 < w.heap.size) :
    Calls Tryd.prog 20 #[.int .i64 (kd : Int), .int .i64 (sa : Int), .int .i64 (se : Int), .slice A n c] w (FrEnc w (Fr.enc (kd : Int) (sa : Int) (se : Int) l) 0) := by
  have hn' : decide ((59 : Int) < (n : Int)) = false := by simp; omega
  have HP : Hid (∀ W, Calls Tryd.prog 41 #[.int .i64 (kd : Int), .int .i64 (sa : Int), .int .i64 (se : Int)] W fun e w' => e = .returned (.bool true) ∧ W = w') := fun W => by
    have h := isplace_any (kd : Int) (sa : Int) (se : Int) W
    rwa [decide_eq_true (by unfold Fr.may; omega)] at h
  obtain ⟨i0, hi0, hz0, hz1, hz2⟩ := info_parts info_u8
  have hmk := fun (W : World) => run_make (P := Tryd.prog) W 26 5 i0 (.int .u8 0) Tryd.underlying26 hi0 hz0 .i64 .i64 60 60 (by omega) (by omega) (by rw [hz2]; omega) (by omega)
  rw [hz1] at hmk
  have I0 := Lib.hid (And.intro hi0 (And.intro hz0 (And.intro hz1 hz2))); clear hi0 hz0 hz1 hz2
  go_enter Tryd.func20, Tryd.ntmps20
  go_wp2_with fail
  refine (HP.out _).mono ?_
  rintro e w' ⟨rfl, rfl⟩
  go_upto_region 6 with fail
  have HR1 : Hid ((w.alloc (.cells (madeCells #[.int .u8 0] 60) 5)).heap[w.heap.size]? = some (.cells (vals (List.replicate 60 0)).toArray 5 (0, 0))) := by
    have h := made_row w 60
    rwa [show List.replicate 60 (Value.int .u8 0) = vals (List.replicate 60 0) by unfold vals; rw [List.map_replicate]; rfl] at h
  have HB1 : Hid (Below w.heap.size w (w.alloc (.cells (madeCells #[.int .u8 0] 60) 5))) := (Below.refl _ w).alloc (Nat.le_refl _) _
  generalize w.alloc (.cells (madeCells #[.int .u8 0] 60) 5) = w1 at *
  have c0 : w1.cell? ⟨w.heap.size, 0, none⟩ = some (.int .u8 0) := by rw [cell_of_row _ _ _ _ _ _ HR1.out]; rfl
  have f0 : w1.frozen? ⟨w.heap.size, 0, none⟩ = false := frozen_of_row _ _ _ _ _ HR1.out
  have ek : IntKind.u8.wrap (kd : Int) = (kd : Int) := by rw [IntKind.wrap_u8]; omega
  go_upto_region 7 with fail
  have HR2 : Hid ((w1.setCell ⟨w.heap.size, 0, none⟩ (.int .u8 (kd : Int))).heap[w.heap.size]? = some (.cells (vals (kd :: List.replicate 59 0)).toArray 5 (0, 0))) := by
    have h := HR1.out
    show _ = _
    simp only [World.setCell, Array.getElem?_modify, h]
    rfl
  have HB2 : Hid (Below w.heap.size w (w1.setCell ⟨w.heap.size, 0, none⟩ (.int .u8 (kd : Int)))) := HB1.out.trans (below_of_grown (grown_set _ _ _ _) (Nat.le_refl _) HB1.out.size)
  generalize w1.setCell ⟨w.heap.size, 0, none⟩ (.int .u8 (kd : Int)) = w2 at *
  have HV : Hid ((vals l).length = n) := (vals_length l).trans hl.out
  have HBS2 : Hid (Bs w2 B A l) := hb.out.below HB2.out hB
  have HSP := Lib.hid (splice_body kd l n hl.out)
  have HLB : Hid ((Fr.body (kd : Int) l).length = 60) := Fr.body_length _ _ (by rw [hl.out]; exact hn)
  have HLT : Hid (∀ y ∈ Fr.body (kd : Int) l, y < 256) := Fr.body_lt _ _ (by omega) hb.out.lt
  clear c0 f0 hmk HR1 HB1 I0
  have hsz : (Tryd.prog.info? 5).map (·.size) = some 1 := by kernel_rfl
  have HC : Hid ((vals l).length = Nat.min n 59 ∧ (0 < (vals l).length → (some (⟨w.heap.size, 1, none⟩ : Addr)) = some ⟨w.heap.size, 1, none⟩ ∧ ∃ ad, A = some ad ∧ ∀ j v, (vals l)[j]? = some v → w2.cell? (ad.add j) = some v) ∧ 1 + (vals l).length ≤ (vals (kd :: List.replicate 59 0)).length) :=
    ⟨by rw [HV.out]; exact (Nat.min_eq_left hn).symm, fun h => ⟨rfl, by cases A with | none => (have := hs.1 rfl; rw [HV.out] at h; omega) | some ad => exact ⟨ad, rfl, fun j v hv => HBS2.out.cells j v hv⟩⟩, by rw [HV.out, vals_length, List.length_cons, List.length_replicate]; omega⟩
  have HSZ := Lib.hid hsz; clear hsz
  go_wp2_with (with_reducible refine wpList_copy_splice rfl (.tmp 27) (.tmp 28) 26 26 rfl 5 Tryd.underlying26 HSZ.out (some ⟨w.heap.size, 1, none⟩) A 59 59 n c rfl rfl w.heap.size 1 (vals (kd :: List.replicate 59 0)) 5 HR2.out (vals l) HC.out.1 HC.out.2.1 HC.out.2.2 (vals_one l) w.heap.size w HB2.out (Nat.le_refl _) ?_; intro w3 hg3 hb3)
  have HG3 : Hid (w3.heap[w.heap.size]? = some (.cells (vals (Fr.body (kd : Int) l)).toArray 5 (0, 0))) := by
    have h := hg3.out
    rwa [HSP.out] at h
  have HB3 := Lib.hid hb3
  have HLT3 : w.heap.size < w3.heap.size := (Array.getElem?_eq_some_iff.1 HG3.out).1
  have HS3 : Hid (Bs w3 w3.heap.size (some ⟨w.heap.size, 0, none⟩) (Fr.body (kd : Int) l)) := fun k hk => by
    refine ⟨getD_lt HLT.out k, _, rfl, HLT3, ?_⟩
    rw [add_zero_block, cell_of_row _ _ _ _ _ _ HG3.out, List.getElem?_toArray, vals_at hk]
  have HF := Lib.hid (frsum_any sa se (some ⟨w.heap.size, 0, none⟩) w3.heap.size 60 60 (Fr.body (kd : Int) l) w3 hsa hse (Nat.le_refl _) HLB.out (by decide) HS3.out (ht.out.below HB3.out hz) (Nat.lt_of_lt_of_le hz HB3.out.size))
  have HE : Hid (Fr.enc (kd : Int) (sa : Int) (se : Int) l = Fr.body (kd : Int) l ++ Wire.be 4 (Crc.U (Crc.upd 0#32 (Rc.spot (sa : Int) (se : Int) ++ Fr.body (kd : Int) l)))) := rfl
  have hU := Crc.U_lt (Crc.upd 0#32 (Rc.spot (sa : Int) (se : Int) ++ Fr.body (kd : Int) l))
  clear hg3 hb3 HSP HBS2 HC HV HR2 HB2
  generalize Crc.U (Crc.upd 0#32 (Rc.spot (sa : Int) (se : Int) ++ Fr.body (kd : Int) l)) = q at *
  generalize Fr.body (kd : Int) l = bd at *
  go_wp2_with fail
  refine HF.out.mono ?_
  rintro e w4 ⟨rfl, hb4⟩
  have HS4 : Hid (Bs w4 w3.heap.size (some ⟨w.heap.size, 0, none⟩) bd) := HS3.out.below hb4 (Nat.le_refl _)
  have HB4 : Hid (Below w.heap.size w w4) := HB3.out.trans (hb4.mono HB3.out.size)
  clear hb4
  have sl60 : SlIs (some (⟨w.heap.size, 0, none⟩ : Addr)) 60 60 := ⟨(fun e => by cases e), Nat.le_refl _, by decide⟩
  have HPT := Lib.hid (put_row (some ⟨w.heap.size, 0, none⟩) w3.heap.size 60 60 bd q 4 4 rfl w4 sl60 HLB.out (by decide) HS4.out (by decide) (by decide))
  clear sl60
  go_wp2_with fail
  refine HPT.out.mono ?_
  rintro e w5 ⟨A5, n5, c5, p5, rfl, hp5, hn5, hr5⟩
  have h64 : n5 = 64 := hn5.out
  subst h64
  have HR5 := Lib.hid hr5
  clear hr5
  go_wp2
  go_ret2
  refine ⟨A5, 64, c5, rfl, HR5.out.2.2.1, fun _ => ⟨rfl, ?_⟩, fun e => absurd rfl e, HB4.out.trans (HR5.out.2.2.2.2.mono HB4.out.size)⟩
  rw [HE.out, ← hp5.out]
  exact ownsRow_mono HR5.out.1 HB4.out.size
end Go.Proofs.YtjfgnojmdbfnmaaDoor
