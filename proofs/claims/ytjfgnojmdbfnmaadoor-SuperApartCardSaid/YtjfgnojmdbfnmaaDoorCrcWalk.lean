/-
  The walks of the checksum functions: what each call returns, said of plain vectors; none of them changes memory.
-/
import Derived.Test.YtjfgnojmdbfnmaaDoorRows
import Derived.Test.YtjfgnojmdbfnmaaDoorCrcBits
import Derived.Test.YtjfgnojmdbfnmaaDoorWords
import Derived.WalkKit
import Derived.WalkSpells
import Derived.WalkLawsBesides
import Derived.Outline
import Derived.Lib.Hide
import Derived.Deep.LoopGhost
namespace Go.Proofs.YtjfgnojmdbfnmaaDoor
open Go.RowKit
/-- The program's table lies in the first block. -/
def TabW (w : World) : Prop := ∀ k, k < 16 → w.cell? ⟨0, k, none⟩ = some (.int .u32 ((Crc.words.getD k 0 : Nat) : Int))
set_option maxRecDepth 100000 in
set_option maxHeartbeats 400000 in
theorem update_any (ci : Int) (c : Crc.B32) (hci : ci = (Crc.U c : Int)) (A : Option Addr) (B cap n : Nat) (l : List Nat) (w : World) (HN : Hid (l.length = n)) (hn : n ≤ 9223372036854775807) (hb : Hid (Bs w B A l)) (ht : Hid (TabW w)) :
    Calls Tryd.prog 64 #[.int .u32 ci, .slice A n cap] w fun e w' => e = .returned (.int .u32 (Crc.U (Crc.upd c l) : Int)) ∧ w = w' := by
  subst hci
  have e0 := Crc.not_u32 c
  go_enter Tryd.func64, Tryd.ntmps64
  go_wp2
  go_loop [0, 6, 11] (fun cv xv iv => ∃ k : Nat, k ≤ n ∧ iv = .int .i64 k ∧ cv = .int .u32 (Crc.U (Crc.fold (~~~ c) (l.take k)) : Int)) (fun _ _ i => n - (intOf i).toNat)
  case atStart => exact ⟨0, Nat.zero_le _, rfl, rfl⟩
  case round =>
    obtain ⟨k, hk, rfl, rfl⟩ := hrel
    by_cases hlt : k < n
    · obtain ⟨hx, ad, rfl, _, hc⟩ := hb.out k (by rw [HN.out]; exact hlt)
      generalize hX : l.getD k 0 = x at hx hc
      have HX := Lib.hid hX; clear hX
      generalize hF : Crc.fold (~~~ c) (l.take k) = f
      have HF := Lib.hid hF; clear hF
      have e1 := Crc.xor_byte f x hx
      generalize hD : f ^^^ Crc.byte x = d at e1
      have HD := Lib.hid hD; clear hD
      obtain ⟨j, t, hj, e2, hc2, e3⟩ := Crc.nib_names d w ht.out
      generalize hG : Crc.it 4 d = g at e3
      have HG := Lib.hid hG; clear hG
      obtain ⟨j', t', hj', e4, hc4, e5⟩ := Crc.nib_names g w ht.out
      generalize hG : Crc.it 4 g = g' at e5
      have HG' := Lib.hid hG; clear hG
      have hx' : (x : Int) < 256 := by omega
      go_wp2
      go_round
      case rel =>
        refine ⟨k + 1, by omega, by go_num, ?_⟩
        have hk2 : k < l.length := by rw [HN.out]; exact hlt
        rw [take_next l k x hk2 HX.out, Crc.fold_append, HF.out, Crc.fold_cons, Crc.fold_nil]
        unfold Crc.push
        rw [HD.out, show (8 : Nat) = 4 + 4 from rfl, Crc.it_add, HG.out, HG'.out]
      case measure => simp [intOf]; omega
    · have hk2 : l.take k = l := List.take_of_length_le (by rw [HN.out]; omega)
      rw [hk2]
      have e9 := Crc.not_u32 (Crc.fold (~~~ c) l)
      generalize hF : Crc.fold (~~~ c) l = f at e9
      have HF := Lib.hid hF; clear hF
      generalize hG : ~~~ f = g at e9
      have HG := Lib.hid hG; clear hG
      go_wp2
      go_ret
      exact ⟨ret_int (by unfold Crc.upd; rw [HF.out, HG.out]), rfl⟩

set_option maxRecDepth 100000 in
set_option maxHeartbeats 400000 in
theorem sum_any (A : Option Addr) (B cap n : Nat) (l : List Nat) (w : World) (hl : Hid (l.length = n)) (hn : n ≤ 9223372036854775807) (hb : Hid (Bs w B A l)) (ht : Hid (TabW w)) :
    Calls Tryd.prog 65 #[.slice A n cap] w fun e w' => e = .returned (.int .u32 (Crc.U (Crc.upd 0#32 l) : Int)) ∧ w = w' := by
  go_enter Tryd.func65, Tryd.ntmps65
  go_wp2_with (go_at_call 64; refine (update_any _ 0#32 (by decide) A B cap n l w hl hn hb ht).mono ?_; rintro e w' ⟨rfl, rfl⟩)
  go_ret
  exact ⟨rfl, rfl⟩

set_option maxRecDepth 100000 in
set_option maxHeartbeats 400000 in
theorem refupdate_any (ci : Int) (c : Crc.B32) (hci : ci = (Crc.U c : Int)) (A : Option Addr) (B cap n : Nat) (l : List Nat) (w : World) (HN : Hid (l.length = n)) (hn : n ≤ 9223372036854775807) (hb : Hid (Bs w B A l)) :
    Calls Tryd.prog 73 #[.int .u32 ci, .slice A n cap] w fun e w' => e = .returned (.int .u32 (Crc.U (Crc.upd c l) : Int)) ∧ w = w' := by
  subst hci
  have e0 := Crc.not_u32 c
  go_enter Tryd.func73, Tryd.ntmps73
  go_wp2
  go_loop [0, 5, 6, 7] (fun cv iv _ _ => ∃ i : Nat, i ≤ n ∧ iv = .int .i64 i ∧ cv = .int .u32 (Crc.U (Crc.fold (~~~ c) (l.take i)) : Int)) (fun _ i _ _ => n - (intOf i).toNat)
  case atStart => exact ⟨0, Nat.zero_le _, rfl, rfl⟩
  case round =>
    obtain ⟨i, hi, rfl, rfl⟩ := hrel
    by_cases hlt : i < n
    · obtain ⟨hx, ad, rfl, _, hc⟩ := hb.out i (by rw [HN.out]; exact hlt)
      generalize hX : l.getD i 0 = x at hx hc
      have HX := Lib.hid hX; clear hX
      generalize hF : Crc.fold (~~~ c) (l.take i) = f
      have HF := Lib.hid hF; clear hF
      have hx' : (x : Int) < 256 := by omega
      go_wp2
      go_loop [0, 6, 7] (fun cv kv _ => ∃ k : Nat, k ≤ 8 ∧ kv = .int .u64 k ∧ cv = .int .u32 (Crc.U (Crc.rs k f x) : Int)) (fun _ k _ => 8 - (intOf k).toNat)
      case atStart => exact ⟨0, Nat.zero_le _, rfl, by rw [Crc.rs_zero]⟩
      case round =>
        obtain ⟨k, hk, rfl, rfl⟩ := hrel
        by_cases hlk : k < 8
        · go_wp2
          · have ht : (Crc.it k (f ^^^ Crc.byte x)).getLsbD 0 = true := by rw [← Crc.ref_bit k f x hx]; assumption
            go_round
            case rel => exact ⟨k + 1, by omega, by go_num, by rw [Crc.ref_yes k f x hx ht]⟩
            case measure => simp [intOf]; omega
          · have ht : (Crc.it k (f ^^^ Crc.byte x)).getLsbD 0 = false := by rw [← Crc.ref_bit k f x hx]; assumption
            go_round
            case rel => exact ⟨k + 1, by omega, by go_num, by rw [Crc.ref_no k f x hx ht]⟩
            case measure => simp [intOf]; omega
        · obtain rfl : k = 8 := by omega
          go_wp2
          go_round
          case rel => exact ⟨i + 1, by omega, by go_num, by rw [take_next l i x (by rw [HN.out]; exact hlt) HX.out, Crc.fold_append, HF.out, Crc.fold_cons, Crc.fold_nil, Crc.rs_end f x hx]⟩
          case measure => simp [intOf]; omega
    · have hk2 : l.take i = l := List.take_of_length_le (by rw [HN.out]; omega)
      rw [hk2]
      have e9 := Crc.not_u32 (Crc.fold (~~~ c) l)
      generalize hF : Crc.fold (~~~ c) l = f at e9
      have HF := Lib.hid hF; clear hF
      generalize hG : ~~~ f = g at e9
      have HG := Lib.hid hG; clear hG
      go_wp2
      go_ret
      exact ⟨ret_int (by unfold Crc.upd; rw [HF.out, HG.out]), rfl⟩

set_option maxRecDepth 100000 in
set_option maxHeartbeats 400000 in
theorem refsum_any (A : Option Addr) (B cap n : Nat) (l : List Nat) (w : World) (hl : Hid (l.length = n)) (hn : n ≤ 9223372036854775807) (hb : Hid (Bs w B A l)) :
    Calls Tryd.prog 54 #[.slice A n cap] w fun e w' => e = .returned (.int .u32 (Crc.U (Crc.upd 0#32 l) : Int)) ∧ w = w' := by
  go_enter Tryd.func54, Tryd.ntmps54
  go_wp2_with (go_at_call 73; refine (refupdate_any _ 0#32 (by decide) A B cap n l w hl hn hb).mono ?_; rintro e w' ⟨rfl, rfl⟩)
  go_ret
  exact ⟨rfl, rfl⟩

/-! The products. -/
end Go.Proofs.YtjfgnojmdbfnmaaDoor
