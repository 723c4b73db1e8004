/-
  The reference's comparison of two rows of whole numbers.
-/
import Derived.Test.YtlhjofcpcccdpaaArr
import Derived.BigQuiet
set_option maxRecDepth 100000
namespace Go.Proofs.Ytlhjofcpcccdpaa
open Go.RowKit
set_option maxHeartbeats 2000000 in
theorem refints_any (A A' : Option Addr) (lo B lo' B' n n' c c' : Nat) (l l' : List Int) (w : World) (hl : Hid (l.length = n)) (hl' : Hid (l'.length = n')) (hn : n ≤ 140737488355328) (hn' : n' ≤ 140737488355328) (hb : Hid (Arr intS w lo B A l)) (hb' : Hid (Arr intS w lo' B' A' l')) :
    Calls Try.prog 15 #[.slice A n c, .slice A' n' c'] w fun r w' => r = .returned (.bool (decide (l = l'))) ∧ Below w.heap.size w w' := by
  have HB0 := Lib.hid (Below.refl w.heap.size w)
  go_enter Try.func15, Try.ntmps15
  by_cases he : n = n'
  · subst he
    go_wp2
    go_loopw [5, 13] (fun xv iv wr => ∃ k q : Nat, k ≤ n ∧ iv = .int .i64 k ∧ wr = w.drewN q ∧ Hid (∀ j, j < k → l.getD j 0 = l'.getD j 0)) (fun _ i _ => n - (Go.RowKit.intOf i).toNat)
    case atStart => exact ⟨0, 0, Nat.zero_le _, rfl, rfl, fun j hj => absurd hj (by omega)⟩
    case round =>
      obtain ⟨k, q, hk, rfl, rfl, hz⟩ := hrel
      by_cases hlt : k < n
      · obtain ⟨ad, rfl⟩ := hb.out.some (k := k) (by rw [hl.out]; exact hlt)
        obtain ⟨ad', rfl⟩ := hb'.out.some (k := k) (by rw [hl'.out]; exact hlt)
        obtain ⟨x, HX⟩ : ∃ p, Hid (l.getD k 0 = p) := ⟨_, rfl⟩
        obtain ⟨y, HY⟩ : ∃ p, Hid (l'.getD k 0 = p) := ⟨_, rfl⟩
        have m0 := ints_at hb.out k (by rw [hl.out]; exact hlt)
        have p0 := ints_at hb'.out k (by rw [hl'.out]; exact hlt)
        rw [HX.out] at m0
        rw [HY.out] at p0
        by_cases hxy : x = y
        · subst hxy
          have hne : (x != x) = false := by simp
          go_wp2
          go_quiet (fail)
          go_wp2
          go_roundw
          case rel =>
            refine ⟨k + 1, _, by omega, by go_num, rfl, fun j hj => ?_⟩
            rcases Nat.lt_or_ge j k with h | h
            · exact hz.out j h
            · obtain rfl : j = k := by omega
              exact HX.out.trans HY.out.symm
          case measure => simp [Go.RowKit.intOf]; omega
        · have HE : Hid (l ≠ l') := fun e => by
            have h1 := HX.out
            rw [e, HY.out] at h1
            exact hxy h1.symm
          have hne : (x != y) = true := by rw [bne_iff_ne]; exact hxy
          clear hxy
          go_wp2
          go_quiet (fail)
          go_wp2
          go_ret
          exact ⟨ret_bool (by rw [decide_eq_false HE.out]), below_drawn (below_drawn HB0.out _) _⟩
      · obtain rfl : k = n := by omega
        have HE : Hid (l = l') := list_ext_getD 0 (hl.out.trans hl'.out.symm) (by rw [hl.out]; exact hz.out)
        go_wp2
        go_ret
        exact ⟨ret_bool (by rw [decide_eq_true HE.out]), below_drawn HB0.out _⟩
  · have HE : Hid (l ≠ l') := fun e => he (by rw [← hl.out, ← hl'.out, e])
    go_wp2
    go_ret
    exact ⟨ret_bool (by rw [decide_eq_false HE.out]), HB0.out⟩
end Go.Proofs.Ytlhjofcpcccdpaa
