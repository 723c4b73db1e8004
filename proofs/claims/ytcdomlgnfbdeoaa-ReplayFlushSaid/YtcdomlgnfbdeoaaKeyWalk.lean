/-
  The walks of keyhash and of its definition: what each call returns, said of plain vectors and numbers; none of them changes memory.
-/
import Derived.Test.YtcdomlgnfbdeoaaRows
import Derived.Test.YtcdomlgnfbdeoaaBase
import Derived.Test.YtcdomlgnfbdeoaaKeyMath
import Derived.WalkKit
import Derived.WalkSpells
import Derived.WalkLawsBesides
import Derived.Outline
import Derived.Lib.Hide
namespace Go.Proofs.Ytcdomlgnfbdeoaa
open Go.RowKit
set_option maxRecDepth 100000 in
set_option maxHeartbeats 400000 in
theorem mix_any (h : Key.B64) (w : World) :
    Calls Try.prog 40 #[.int .u64 (Key.V h : Int)] w fun e w' => e = .returned (.int .u64 (Key.V (Key.mix h) : Int)) ∧ w = w' := by
  obtain ⟨a, b, c, d, e1, e2, e3, e4, e5⟩ := Key.mix_names h
  go_enter Try.func40, Try.ntmps40
  go_wp2
  go_ret
  exact ⟨rfl, rfl⟩
set_option maxRecDepth 100000 in
set_option maxHeartbeats 400000 in
theorem hash_any (A : Option Addr) (B cap n : Nat) (l : List Nat) (w : World) (HN : Hid (l.length = n)) (hn : n ≤ 9223372036854775807) (hb : Hid (Bs w B A l)) :
    Calls Try.prog 30 #[.slice A n cap] w fun e w' => e = .returned (.int .u64 (Key.V (Key.hash l) : Int)) ∧ w = w' := by
  go_enter Try.func30, Try.ntmps30
  go_wp2
  go_loop [3, 5, 8] (fun hv xv iv => ∃ k : Nat, k ≤ n ∧ iv = .int .i64 k ∧ hv = .int .u64 (Key.V (Key.fnv (l.take k)) : Int)) (fun _ _ i => n - (intOf i).toNat)
  case atStart => exact ⟨0, Nat.zero_le _, rfl, rfl⟩
  case round =>
    obtain ⟨k, hk, rfl, rfl⟩ := hrel
    by_cases hlt : k < n
    · obtain ⟨hx, ad, rfl, _, hc⟩ := hb.out k (by rw [HN.out]; exact hlt)
      generalize hX : l.getD k 0 = x at hx hc
      have HX := Lib.hid hX; clear hX
      generalize hF : Key.fnv (l.take k) = f
      have HF := Lib.hid hF; clear hF
      obtain ⟨a, b, e1, e2, hB⟩ := Key.push_names f x hx
      have HB := Lib.hid hB; clear hB
      have hx' : (x : Int) < 256 := by omega
      go_wp2
      go_round
      case rel =>
        refine ⟨k + 1, by omega, by go_num, ?_⟩
        have hk2 : k < l.length := by rw [HN.out]; exact hlt
        rw [take_next l k x hk2 HX.out, Key.fnv_snoc, HF.out, HB.out]
      case measure => simp [intOf]; omega
    · have hk2 : l.take k = l := List.take_of_length_le (by rw [HN.out]; omega)
      rw [hk2]
      have HM : Hid (Key.hash l = Key.mix (Key.fnv l)) := rfl
      generalize Key.fnv l = f at HM
      go_wp2_with (go_at_call 40; refine (mix_any f _).mono ?_; rintro e w' ⟨rfl, rfl⟩)
      go_ret
      exact ⟨ret_int (by rw [HM.out]), rfl⟩
end Go.Proofs.Ytcdomlgnfbdeoaa
