/-
  The walk of the statement on the least estimate.
-/
import Derived.Test.YtbhmlfgofemjlaaSkAwake
import Derived.Test.YtbhmlfgofemjlaaSkRows
set_option maxRecDepth 100000
namespace Go.Proofs.Ytbhmlfgofemjlaa
open Go.RowKit
theorem run_next (l : List Nat) (k x : Nat) (hk : k < l.length) (hx : l.getD k 0 = x) : Sk.run Sk.new (l.take (k + 1)) = Sk.touch (Sk.run Sk.new (l.take k)) x := by
  rw [take_next l k x hk hx, Sk.run_snoc]
theorem count_next (l : List Nat) (k x h : Nat) (hk : k < l.length) (hx : l.getD k 0 = x) : (l.take (k + 1)).count h = (l.take k).count h + if x = h then 1 else 0 := by
  rw [take_next l k x hk hx, List.count_append, List.count_singleton]
  simp
set_option maxHeartbeats 4000000 in
theorem skleast_any (A : Option Addr) (n c : Nat) (l : List Nat) (h : Nat) (w : World) (hs : SlIs A n c) (hl : Hid (l.length = n)) (hb : Hid (Arr u64S w 0 w.heap.size A l)) (hr : Hid (∀ k, k < n → l.getD k 0 < 18446744073709551616)) (hh : h < 18446744073709551616) :
    Calls Try.prog 4 #[.slice A n c, .int .u64 (h : Int)] w fun e w' => e = .returned (.bool true) ∧ Below w.heap.size w w' := by
  have hcap := hs.2.2
  have hnc := hs.2.1
  obtain ⟨B, hB⟩ : ∃ B, w.heap.size = B := ⟨_, rfl⟩
  have CN := Lib.hid (sknew_any w)
  have HS1 := Lib.hid (SkSt.new (B := B) w (Nat.le_of_eq hB.symm))
  have HB1 := Lib.hid (below_new w (.cells (skc .u8 Sk.new).toArray 41 (0, 0)))
  have HZ1 : Hid (B ≤ (w.alloc (.cells (skc .u8 Sk.new).toArray 41 (0, 0))).heap.size) := Nat.le_trans (Nat.le_of_eq hB.symm) HB1.out.size
  have HB0 : Hid (B ≤ w.heap.size) := Nat.le_of_eq hB.symm
  rw [hB] at CN HS1 HB1 hb
  rw [hB]
  generalize w.alloc (.cells (skc .u8 Sk.new).toArray 41 (0, 0)) = w1 at *
  clear hB
  go_enter Try.func4, Try.ntmps4
  go_wp2_with fail
  refine CN.out.mono ?_
  rintro e w1' ⟨rfl, rfl⟩
  clear CN
  go_upto_block 0 with fail
  go_cut [6] (fun nv wx => ∃ m : Nat, m ≤ n ∧ m ≤ 600 ∧ nv = .int .i64 ((l.take m).count h : Int) ∧ Hid (SkSt B wx B (Sk.run Sk.new (l.take m))) ∧ Hid (Below B w wx))
  case first =>
    go_wp2_with fail
    go_loopw [6, 7] (fun nv iv wr => ∃ k : Nat, k ≤ n ∧ k ≤ 600 ∧ nv = .int .i64 ((l.take k).count h : Int) ∧ iv = .int .i64 (k : Int) ∧ Hid (SkSt B wr B (Sk.run Sk.new (l.take k))) ∧ Hid (Below B w wr)) (fun _ iv _ => n - (intOf iv).toNat)
    case atStart => exact ⟨0, Nat.zero_le _, Nat.zero_le _, rfl, rfl, HS1, HB1⟩
    case round =>
      clear HS1 HB1
      obtain ⟨k, hk, hk2, rfl, rfl, HS, HB⟩ := hrel
      by_cases hlt : k < n ∧ k < 600
      · obtain ⟨hlt, hlt2⟩ := hlt
        obtain ⟨ad, rfl⟩ := hb.out.some (k := k) (by rw [hl.out]; exact hlt)
        obtain ⟨x, hx⟩ : ∃ x, l.getD k 0 = x := ⟨_, rfl⟩
        have HX : Hid (x < 18446744073709551616) := by have := hr.out k hlt; rw [hx] at this; exact this
        have m0 := u64s_at (hb.out.below HB.out (Nat.le_refl _)) k (by rw [hl.out]; exact hlt)
        rw [hx] at m0
        have HRN := Lib.hid (run_next l k x (by rw [hl.out]; exact hlt) hx)
        have HCN := Lib.hid (count_next l k x h (by rw [hl.out]; exact hlt) hx)
        have hcl : (l.take k).count h ≤ 600 := Nat.le_trans List.count_le_length (by rw [List.length_take]; omega)
        generalize (l.take k).count h = cn at *
        have HZ := Lib.hid (Nat.le_trans HB0.out HB.out.size)
        have CT := Lib.hid (sktouch_any B x _ wr HX.out HS.out.few (Lib.hid HS.out.i))
        go_wp2_with fail
        refine CT.out.mono ?_
        rintro e w2 ⟨rfl, h2, ho2⟩
        have HS2 := Lib.hid (HS.out.touch h2)
        have HB2 := Lib.hid (HB.out.trans (ho2.below HZ.out (Nat.le_refl _)))
        rw [← HRN.out] at HS2
        clear m0 CT HS HB h2 ho2 HZ
        have m0 := u64s_at (hb.out.below HB2.out (Nat.le_refl _)) k (by rw [hl.out]; exact hlt)
        rw [hx] at m0
        clear hx
        by_cases hxh : x = h
        · subst hxh
          rw [if_pos rfl] at HCN
          go_wp2_with fail
          go_roundw
          case rel => exact ⟨k + 1, by omega, by omega, by rw [HCN.out]; go_num, by go_num, HS2, HB2⟩
          case measure => simp [intOf]; omega
        · rw [if_neg hxh] at HCN
          have hne : ((x : Int) == (h : Int)) = false := by rw [beq_eq_false_iff_ne]; omega
          go_wp2_with fail
          go_roundw
          case rel => exact ⟨k + 1, by omega, by omega, by rw [HCN.out]; rfl, by go_num, HS2, HB2⟩
          case measure => simp [intOf]; omega
      · by_cases hlt2 : k < n
        · have h600 : k = 600 := by omega
          have hd : decide ((k : Int) < 600) = false := decide_eq_false (by omega)
          clear hlt
          go_wp2_with fail
          go_meet
          exact ⟨k, hk, hk2, by rw [h600], HS, HB⟩
        · clear hlt
          go_wp2_with fail
          go_meet
          exact ⟨k, hk, hk2, rfl, HS, HB⟩
  case rest =>
    clear HS1 HB1
    obtain ⟨m, hm, hm2, rfl, HS, HB⟩ := hcut
    generalize wc = w2 at *
    obtain ⟨e1, e2⟩ := Sk.est_least (l := l.take m) (by rw [List.length_take]; omega) h
    have CE := Lib.hid (skest_any B h _ w2 hh (Lib.hid HS.out.i))
    generalize (l.take m).count h = cn at *
    generalize Sk.est (Sk.run Sk.new (l.take m)) h = x at *
    obtain ⟨y, hy⟩ : ∃ y, min cn 15 = y := ⟨_, rfl⟩
    have hmin : (if (15 : Int) < (cn : Int) then (15 : Int) else (cn : Int)) = (y : Int) := by split <;> omega
    rw [hy] at e1
    clear hy
    go_wp2_with fail
    refine CE.out.mono ?_
    rintro e w3 ⟨rfl, n3, rfl⟩
    clear CE
    have HB3 := Lib.hid (below_drawn HB.out n3)
    have HZ3 := Lib.hid (Nat.le_trans HB0.out HB3.out.size)
    generalize w2.drewN n3 = w3 at *
    go_wp2_with fail
    refine (niltouch_any 1 _).mono ?_
    rintro e w4 ⟨rfl, rfl⟩
    go_wp2_with fail
    refine (skawake_any _).mono ?_
    rintro e w4 ⟨rfl, hb4⟩
    have HB4 := Lib.hid (HB3.out.trans (hb4.mono HZ3.out))
    clear hb4
    go_wp2_with fail
    refine (nilest_any 1 _).mono ?_
    rintro e w5 ⟨rfl, rfl⟩
    go_wp2_with fail
    refine (niltouches_any _).mono ?_
    rintro e w5 ⟨rfl, rfl⟩
    go_wp2_with fail
    go_ret
    exact ⟨rfl, HB4.out⟩
end Go.Proofs.Ytbhmlfgofemjlaa
