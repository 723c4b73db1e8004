/-
  The walks of the checksum functions: what each call returns, said of plain vectors; none of them changes memory.
-/
import Derived.Test.YtogaoemeiclpjaaDoorRows
import Derived.Test.YtogaoemeiclpjaaDoorCrcBits
import Derived.Test.YtogaoemeiclpjaaDoorWords
import Derived.WalkKit
import Derived.WalkSpells
import Derived.WalkLawsBesides
import Derived.Outline
import Derived.Lib.Hide
import Derived.Deep.LoopGhost
namespace Go.Proofs.YtogaoemeiclpjaaDoor
open Go.RowKit
/-- The program's table lies in the first block. -/
def TabW (w : World) : Prop := ∀ k, k < 16 → w.cell? ⟨0, k, none⟩ = some (.int .u32 ((Crc.words.getD k 0 : Nat) : Int))
set_option maxRecDepth 100000 in
set_option maxHeartbeats 400000 in
theorem update_any (ci : Int) (c : Crc.B32) (hci : ci = (Crc.U c : Int)) (A : Option Addr) (B cap n : Nat) (l : List Nat) (w : World) (HN : Hid (l.length = n)) (hn : n ≤ 9223372036854775807) (hb : Hid (Bs w B A l)) (ht : Hid (TabW w)) :
    Calls Tryd.prog 11 #[.int .u32 ci, .slice A n cap] w fun e w' => e = .returned (.int .u32 (Crc.U (Crc.upd c l) : Int)) ∧ w = w' := by
  subst hci
  have e0 := Crc.not_u32 c
  go_enter Tryd.func11, Tryd.ntmps11
  go_wp2
  go_loop [0, 6, 11] (fun cv xv iv => ∃ k : Nat, k ≤ n ∧ iv = .int .i64 k ∧ cv = .int .u32 (Crc.U (Crc.fold (~~~ c) (l.take k)) : Int)) (fun _ _ i => n - (intOf i).toNat)
  case atStart => exact ⟨0, Nat.zero_le _, rfl, rfl⟩
  case round =>
    obtain ⟨k, hk, rfl, rfl⟩ := hrel
    by_cases hlt : k < n
    · obtain ⟨hx, ad, rfl, _, hc⟩ := hb.out k (by rw [HN.out]; exact hlt)
      generalize hX : l.getD k 0 = x at hx hc
      have HX := Lib.hid hX; clear hX
      generalize hF : Crc.fold (~~~ c) (l.take k) = f
      have HF := Lib.hid hF; clear hF
      have e1 := Crc.xor_byte f x hx
      generalize hD : f ^^^ Crc.byte x = d at e1
      have HD := Lib.hid hD; clear hD
      obtain ⟨j, t, hj, e2, hc2, e3⟩ := Crc.nib_names d w ht.out
      generalize hG : Crc.it 4 d = g at e3
      have HG := Lib.hid hG; clear hG
      obtain ⟨j', t', hj', e4, hc4, e5⟩ := Crc.nib_names g w ht.out
      generalize hG : Crc.it 4 g = g' at e5
      have HG' := Lib.hid hG; clear hG
      have hx' : (x : Int) < 256 := by omega
      go_wp2
      go_round
      case rel =>
        refine ⟨k + 1, by omega, by go_num, ?_⟩
        have hk2 : k < l.length := by rw [HN.out]; exact hlt
        rw [take_next l k x hk2 HX.out, Crc.fold_append, HF.out, Crc.fold_cons, Crc.fold_nil]
        unfold Crc.push
        rw [HD.out, show (8 : Nat) = 4 + 4 from rfl, Crc.it_add, HG.out, HG'.out]
      case measure => simp [intOf]; omega
    · have hk2 : l.take k = l := List.take_of_length_le (by rw [HN.out]; omega)
      rw [hk2]
      have e9 := Crc.not_u32 (Crc.fold (~~~ c) l)
      generalize hF : Crc.fold (~~~ c) l = f at e9
      have HF := Lib.hid hF; clear hF
      generalize hG : ~~~ f = g at e9
      have HG := Lib.hid hG; clear hG
      go_wp2
      go_ret
      exact ⟨ret_int (by unfold Crc.upd; rw [HF.out, HG.out]), rfl⟩

set_option maxRecDepth 100000 in
set_option maxHeartbeats 400000 in
theorem sum_any (A : Option Addr) (B cap n : Nat) (l : List Nat) (w : World) (hl : Hid (l.length = n)) (hn : n ≤ 9223372036854775807) (hb : Hid (Bs w B A l)) (ht : Hid (TabW w)) :
    Calls Tryd.prog 9 #[.slice A n cap] w fun e w' => e = .returned (.int .u32 (Crc.U (Crc.upd 0#32 l) : Int)) ∧ w = w' := by
  go_enter Tryd.func9, Tryd.ntmps9
  go_wp2_with (go_at_call 11; refine (update_any _ 0#32 (by decide) A B cap n l w hl hn hb ht).mono ?_; rintro e w' ⟨rfl, rfl⟩)
  go_ret
  exact ⟨rfl, rfl⟩

set_option maxRecDepth 100000 in
set_option maxHeartbeats 400000 in
theorem refupdate_any (ci : Int) (c : Crc.B32) (hci : ci = (Crc.U c : Int)) (A : Option Addr) (B cap n : Nat) (l : List Nat) (w : World) (HN : Hid (l.length = n)) (hn : n ≤ 9223372036854775807) (hb : Hid (Bs w B A l)) :
    Calls Tryd.prog 12 #[.int .u32 ci, .slice A n cap] w fun e w' => e = .returned (.int .u32 (Crc.U (Crc.upd c l) : Int)) ∧ w = w' := by
  subst hci
  have e0 := Crc.not_u32 c
  go_enter Tryd.func12, Tryd.ntmps12
  go_wp2
  go_loop [0, 5, 6, 7] (fun cv iv _ _ => ∃ i : Nat, i ≤ n ∧ iv = .int .i64 i ∧ cv = .int .u32 (Crc.U (Crc.fold (~~~ c) (l.take i)) : Int)) (fun _ i _ _ => n - (intOf i).toNat)
  case atStart => exact ⟨0, Nat.zero_le _, rfl, rfl⟩
  case round =>
    obtain ⟨i, hi, rfl, rfl⟩ := hrel
    by_cases hlt : i < n
    · obtain ⟨hx, ad, rfl, _, hc⟩ := hb.out i (by rw [HN.out]; exact hlt)
      generalize hX : l.getD i 0 = x at hx hc
      have HX := Lib.hid hX; clear hX
      generalize hF : Crc.fold (~~~ c) (l.take i) = f
      have HF := Lib.hid hF; clear hF
      have hx' : (x : Int) < 256 := by omega
      go_wp2
      go_loop [0, 6, 7] (fun cv kv _ => ∃ k : Nat, k ≤ 8 ∧ kv = .int .u64 k ∧ cv = .int .u32 (Crc.U (Crc.rs k f x) : Int)) (fun _ k _ => 8 - (intOf k).toNat)
      case atStart => exact ⟨0, Nat.zero_le _, rfl, by rw [Crc.rs_zero]⟩
      case round =>
        obtain ⟨k, hk, rfl, rfl⟩ := hrel
        by_cases hlk : k < 8
        · go_wp2
          · have ht : (Crc.it k (f ^^^ Crc.byte x)).getLsbD 0 = true := by rw [← Crc.ref_bit k f x hx]; assumption
            go_round
            case rel => exact ⟨k + 1, by omega, by go_num, by rw [Crc.ref_yes k f x hx ht]⟩
            case measure => simp [intOf]; omega
          · have ht : (Crc.it k (f ^^^ Crc.byte x)).getLsbD 0 = false := by rw [← Crc.ref_bit k f x hx]; assumption
            go_round
            case rel => exact ⟨k + 1, by omega, by go_num, by rw [Crc.ref_no k f x hx ht]⟩
            case measure => simp [intOf]; omega
        · obtain rfl : k = 8 := by omega
          go_wp2
          go_round
          case rel => exact ⟨i + 1, by omega, by go_num, by rw [take_next l i x (by rw [HN.out]; exact hlt) HX.out, Crc.fold_append, HF.out, Crc.fold_cons, Crc.fold_nil, Crc.rs_end f x hx]⟩
          case measure => simp [intOf]; omega
    · have hk2 : l.take i = l := List.take_of_length_le (by rw [HN.out]; omega)
      rw [hk2]
      have e9 := Crc.not_u32 (Crc.fold (~~~ c) l)
      generalize hF : Crc.fold (~~~ c) l = f at e9
      have HF := Lib.hid hF; clear hF
      generalize hG : ~~~ f = g at e9
      have HG := Lib.hid hG; clear hG
      go_wp2
      go_ret
      exact ⟨ret_int (by unfold Crc.upd; rw [HF.out, HG.out]), rfl⟩

set_option maxRecDepth 100000 in
set_option maxHeartbeats 400000 in
theorem refsum_any (A : Option Addr) (B cap n : Nat) (l : List Nat) (w : World) (hl : Hid (l.length = n)) (hn : n ≤ 9223372036854775807) (hb : Hid (Bs w B A l)) :
    Calls Tryd.prog 10 #[.slice A n cap] w fun e w' => e = .returned (.int .u32 (Crc.U (Crc.upd 0#32 l) : Int)) ∧ w = w' := by
  go_enter Tryd.func10, Tryd.ntmps10
  go_wp2_with (go_at_call 12; refine (refupdate_any _ 0#32 (by decide) A B cap n l w hl hn hb).mono ?_; rintro e w' ⟨rfl, rfl⟩)
  go_ret
  exact ⟨rfl, rfl⟩

/-! The products. -/
set_option maxHeartbeats 400000 in
theorem step_any (ci : Int) (c : Crc.B32) (hci : ci = (Crc.U c : Int)) (w : World) :
    Calls Tryd.prog 16 #[.int .u32 ci] w fun e w' => e = .returned (.int .u32 (Crc.U (Crc.st c) : Int)) ∧ w = w' := by
  subst hci
  go_enter Tryd.func16, Tryd.ntmps16
  go_wp2
  · go_ret
    exact ⟨ret_int (by rw [Crc.st_yes c (by rw [← Crc.test_one]; assumption)]), rfl⟩
  · go_ret
    exact ⟨ret_int (by rw [Crc.st_no c (by rw [← Crc.test_one]; assumption)]), rfl⟩
set_option maxRecDepth 100000 in
set_option maxHeartbeats 400000 in
theorem multiply_any (ai bi : Int) (a b : Crc.B32) (hai : ai = (Crc.U a : Int)) (hbi : bi = (Crc.U b : Int)) (w : World) :
    Calls Tryd.prog 14 #[.int .u32 ai, .int .u32 bi] w fun e w' => e = .returned (.int .u32 (Crc.U (Crc.mul a b) : Int)) ∧ w = w' := by
  subst hai; subst hbi
  go_enter Tryd.func14, Tryd.ntmps14
  go_wp2
  go_loopg [0, 1, 5] 32 (fun g av bv pv wr => wr = w ∧ ∃ x y p : Crc.B32, av = .int .u32 (Crc.U x : Int) ∧ bv = .int .u32 (Crc.U y : Int) ∧ pv = .int .u32 (Crc.U p : Int) ∧ Hid ((g ≤ 32 ∧ Crc.mul a b = p ^^^ Crc.ev g x y ∧ (g = 0 → y = 0#32)) ∧ ∃ z : Crc.B32, y = z <<< (32 - g)))
  case atStart => exact ⟨rfl, a, b, 0#32, rfl, rfl, rfl, by unfold Crc.mul; exact ⟨⟨by omega, by rw [BitVec.zero_xor], fun h => absurd h (by decide)⟩, b, by simp⟩⟩
  case round =>
    obtain ⟨rfl, x, y, p, rfl, rfl, rfl, H⟩ := hrel
    by_cases hy : y = 0#32
    · have z : ((Crc.U y : Int) != 0) = false := by rw [Crc.zero_iff, hy]; rfl
      have HY := Lib.hid hy; clear hy
      go_wp2
      go_ret
      exact ⟨ret_int (by rw [H.out.1.2.1, HY.out, Crc.ev_zero_right, BitVec.xor_zero]), rfl⟩
    · have z : ((Crc.U y : Int) != 0) = true := by rw [Crc.zero_iff]; simpa using hy
      obtain ⟨k, hg, hk, hm⟩ := Crc.ev_next _ _ _ _ _ H.out.1 hy
      obtain ⟨z0, hz0⟩ := H.out.2
      have hgk : (32 : Nat) - gk + 1 = 32 - k := by omega
      have HN : Hid (∃ z : Crc.B32, y <<< 1 = z <<< (32 - k)) := ⟨z0, by rw [hz0, ← BitVec.shiftLeft_add, hgk]⟩
      have HZ : Hid (k = 0 → y <<< 1 = 0#32) := fun e => by
        obtain ⟨u, hu⟩ := HN
        rw [hu, e]; exact BitVec.shiftLeft_eq_zero (Nat.le_refl 32)
      have HG := Lib.hid hg; clear hg
      have HM := Lib.hid hm; clear hm
      have HY := Lib.hid hy; clear hy
      clear hz0 H hgk
      have s1 := Crc.shl_one y
      generalize hy1 : y <<< 1 = y1 at s1 HN HZ HM
      have HY1 := Lib.hid hy1; clear hy1
      cases hb : y.getLsbD 31 with
      | true =>
        have t : (bits .and .u32 (Crc.U y : Int) 2147483648 != 0) = true := by rw [Crc.top_bit, hb]
        have e1 := Crc.xor_u32 p x
        generalize hq : p ^^^ x = q at e1
        have HQ := Lib.hid hq; clear hq
        have HB := Lib.hid hb; clear hb
        go_wp2_with (go_at_call 16; refine (step_any _ x rfl _).mono ?_; rintro e w' ⟨rfl, rfl⟩)
        go_roundg k
        case measure => have := HG.out; omega
        case rel => exact ⟨rfl, _, y1, q, rfl, by rw [s1], rfl, ⟨⟨Nat.le_of_lt hk, by rw [HM.out, HB.out, if_pos rfl, HQ.out], HZ.out⟩, HN.out⟩⟩
      | false =>
        have t : (bits .and .u32 (Crc.U y : Int) 2147483648 != 0) = false := by rw [Crc.top_bit, hb]
        have HB := Lib.hid hb; clear hb
        go_wp2_with (go_at_call 16; refine (step_any _ x rfl _).mono ?_; rintro e w' ⟨rfl, rfl⟩)
        go_roundg k
        case measure => have := HG.out; omega
        case rel => exact ⟨rfl, _, y1, p, rfl, by rw [s1], rfl, ⟨⟨Nat.le_of_lt hk, by rw [HM.out, HB.out, if_neg (by decide)], HZ.out⟩, HN.out⟩⟩

set_option maxRecDepth 100000 in
set_option maxHeartbeats 400000 in
theorem shiftby_any (n : Nat) (hn : n ≤ 1048576) (w : World) :
    Calls Tryd.prog 15 #[.int .i64 (n : Int)] w fun e w' => e = .returned (.int .u32 (Crc.U (Crc.it (8 * n) Crc.one) : Int)) ∧ w = w' := by
  go_enter Tryd.func15, Tryd.ntmps15
  go_wp2
  go_loopg [0, 3, 4] n (fun g nv pv qv wr => wr = w ∧ ∃ m : Nat, ∃ p q : Crc.B32, nv = .int .i64 (m : Int) ∧ pv = .int .u32 (Crc.U p : Int) ∧ qv = .int .u32 (Crc.U q : Int) ∧ m ≤ g ∧ m ≤ 1048576 ∧ Hid (∃ j k : Nat, p = Crc.it j Crc.one ∧ q = Crc.it k Crc.one ∧ j + k * m = 8 * n))
  case atStart => exact ⟨rfl, n, Crc.one, Crc.it 8 Crc.one, rfl, rfl, by rw [Crc.shift_start]; rfl, by omega, by omega, ⟨0, 8, rfl, rfl, by omega⟩⟩
  case round =>
    obtain ⟨rfl, m, p, q, rfl, rfl, rfl, hmg, hm20, H⟩ := hrel
    by_cases hm : m = 0
    · subst hm
      go_wp2
      go_ret
      exact ⟨ret_int (by obtain ⟨j, k, hp, _, hj⟩ := H.out; rw [hp, ← hj, Nat.mul_zero, Nat.add_zero]), rfl⟩
    · have hm0 : 0 < m := by omega
      clear hm
      by_cases ho : m % 2 = 1
      · have t : (bits .and .i64 (m : Int) 1 == 1) = true := by rw [Crc.odd_test m (by omega)]; simpa using ho
        have HO := Lib.hid ho; clear ho
        go_wp2_with (go_at_call 14; refine (multiply_any _ _ _ _ rfl rfl _).mono ?_; rintro e w' ⟨rfl, rfl⟩)
        go_roundg (m / 2)
        case measure => omega
        case rel => exact ⟨rfl, m / 2, _, _, by go_num, rfl, rfl, by omega, by omega, Crc.odd_step m _ p q HO.out H.out⟩
      · have t : (bits .and .i64 (m : Int) 1 == 1) = false := by rw [Crc.odd_test m (by omega)]; simpa using ho
        have HO := Lib.hid ho; clear ho
        go_wp2_with (go_at_call 14; refine (multiply_any _ _ _ _ rfl rfl _).mono ?_; rintro e w' ⟨rfl, rfl⟩)
        go_roundg (m / 2)
        case measure => omega
        case rel => exact ⟨rfl, m / 2, _, _, by go_num, rfl, rfl, by omega, by omega, Crc.even_step m _ p q HO.out H.out⟩

set_option maxRecDepth 100000 in
set_option maxHeartbeats 400000 in
theorem combine_any (xi yi : Int) (x y : Crc.B32) (hx : xi = (Crc.U x : Int)) (hy : yi = (Crc.U y : Int)) (ni : Int) (n : Nat) (hni : ni = (n : Int)) (hn : n ≤ 1048576) (w : World) :
    Calls Tryd.prog 13 #[.int .u32 xi, .int .u32 yi, .int .i64 ni] w fun e w' => e = .returned (.int .u32 (Crc.U (Crc.it (8 * n) x ^^^ y) : Int)) ∧ w = w' := by
  subst hx; subst hy; subst hni
  have hf := Crc.mul_it (8 * n) x
  have HF := Lib.hid hf; clear hf
  have e1 := Crc.xor_u32 (Crc.mul x (Crc.it (8 * n) Crc.one)) y
  go_enter Tryd.func13, Tryd.ntmps13
  go_wp2_with (first | (go_at_call 15; refine (shiftby_any n hn _).mono ?_; rintro e w' ⟨rfl, rfl⟩) | (go_at_call 14; refine (multiply_any _ _ _ _ rfl rfl _).mono ?_; rintro e w' ⟨rfl, rfl⟩))
  go_ret
  exact ⟨ret_int (by rw [HF.out]), rfl⟩
set_option maxHeartbeats 400000 in
theorem combine_out (x y n : Int) (hn : n < 0 ∨ 1048576 < n) (w : World) :
    Calls Tryd.prog 13 #[.int .u32 x, .int .u32 y, .int .i64 n] w fun e w' => e = .returned (.int .u32 0) ∧ w = w' := by
  rcases hn with h | h
  · go_enter Tryd.func13, Tryd.ntmps13
    go_wp2
    go_ret
    exact ⟨rfl, rfl⟩
  · have h2 : 0 ≤ n := by omega
    go_enter Tryd.func13, Tryd.ntmps13
    go_wp2
    go_ret
    exact ⟨rfl, rfl⟩
end Go.Proofs.YtogaoemeiclpjaaDoor
