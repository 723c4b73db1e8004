/-
  The program's Tail.
-/
import Derived.Test.YtmkilbogdenljaaSlPick
import Derived.Test.YtmkilbogdenljaaSlCut
set_option maxRecDepth 100000
namespace Go.Proofs.Ytmkilbogdenljaa
open Go.RowKit
theorem take_min {live : List Gm.R} {k : Nat} {m : Int} (hk : k < live.length) (h1 : ∃ r ∈ live.take k, m = r.seq) (h2 : ∀ r ∈ live.take k, m ≤ r.seq) :
    (∃ r ∈ live.take (k + 1), min m (live.getD k Gm.R0).seq = r.seq) ∧ ∀ r ∈ live.take (k + 1), min m (live.getD k Gm.R0).seq ≤ r.seq := by
  have e : live.take (k + 1) = live.take k ++ [live.getD k Gm.R0] := by
    rw [List.take_succ_eq_append_getElem hk, List.getD_eq_getElem?_getD, List.getElem?_eq_getElem hk]; rfl
  rw [e]
  generalize live.getD k Gm.R0 = x
  constructor
  · rcases Int.le_total m x.seq with h | h
    · obtain ⟨r, hr, e1⟩ := h1
      exact ⟨r, List.mem_append_left _ hr, by rw [Int.min_eq_left h, e1]⟩
    · exact ⟨x, List.mem_append_right _ (List.mem_singleton.2 rfl), Int.min_eq_right h⟩
  · intro r hr
    rcases List.mem_append.1 hr with h | h
    · have := h2 r h
      omega
    · rw [List.mem_singleton.1 h]
      omega
/-- A list's rest behind its first, read through the rest of the slice. -/
theorem regs_rest {w : World} {lo B : Nat} {ad : Addr} {l : List Gm.R} (h : Arr regS w lo B (some ad) l) : Arr regS w lo B (some ⟨ad.block, ad.off + 10, none⟩) (l.drop 1) := fun i hi => by
  rw [List.length_drop] at hi
  obtain ⟨ad', e, h2, h3, h4⟩ := h (1 + i) (by omega)
  injection e with e
  subst e
  refine ⟨_, rfl, h2, h3, fun j v hv => ?_⟩
  have hg : (l.drop 1).getD i regS.z = l.getD (1 + i) regS.z := by
    rw [List.getD_eq_getElem?_getD, List.getElem?_drop, ← List.getD_eq_getElem?_getD]
  rw [hg] at hv
  have := h4 j v hv
  rw [show ad.add ((1 + i) * regS.m + j) = ⟨ad.block, ad.off + ((1 + i) * regS.m + j), none⟩ from if_neg (by show ¬ (1 + i) * 10 + j = 0; omega)] at this
  rw [arr_flat, show ad.off + 10 + (i * regS.m + j) = ad.off + ((1 + i) * regS.m + j) by show ad.off + 10 + (i * 10 + j) = ad.off + ((1 + i) * 10 + j); omega]
  exact this
set_option maxHeartbeats 2000000 in
theorem sltail_any (A : Option Addr) (lo B n cap : Nat) (live : List Gm.R) (next : Int) (w : World) (hB : B ≤ w.heap.size) (hc : n ≤ cap) (hn : Hid (live.length = n)) (hn2 : n ≤ 100000) (hb : Hid (Arr regS w lo B A live)) :
    Calls Try.prog 12 #[.slice A n cap, .int .i64 next] w fun e w' => e = .returned (.int .i64 (Sl.tail live next)) ∧ Below w.heap.size w w' := by
  rcases Nat.eq_zero_or_pos n with h0 | h0
  · subst h0
    obtain rfl : live = [] := List.length_eq_zero_iff.1 hn.out
    rw [Sl.tail_nil]
    go_enter Try.func12, Try.ntmps12
    go_wp2_with fail
    go_ret
    exact ⟨rfl, Below.refl _ _⟩
  · obtain ⟨ad, rfl⟩ := hb.out.some (k := 0) (by rw [hn.out]; exact h0)
    obtain ⟨N, rfl⟩ : ∃ N, n = N + 1 := ⟨n - 1, by omega⟩
    have hn0 : ((N : Int) + 1 == 0) = false := by rw [beq_eq_false_iff_ne]; omega
    obtain ⟨p0, hp0⟩ : ∃ r, live.getD 0 Gm.R0 = r := ⟨_, rfl⟩
    obtain ⟨-, -, -, m3, -⟩ := regs_at hb.out 0 (by rw [hn.out]; exact h0) p0 hp0
    rw [Nat.zero_mul, show ad.add 0 = ad from rfl] at m3
    have HST : Hid ((∃ r ∈ live.take 1, p0.seq = r.seq) ∧ ∀ r ∈ live.take 1, p0.seq ≤ r.seq) := by
      have e : live.take 1 = [p0] := by
        have hl := hn.out
        cases live with
        | nil => cases hl
        | cons x t => rw [← hp0]; rfl
      show _ ∧ _
      rw [e]
      exact ⟨⟨p0, List.mem_singleton.2 rfl, rfl⟩, fun r hr => by rw [List.mem_singleton.1 hr]; exact Int.le_refl _⟩
    have HEND : Hid (∀ m, (∃ r ∈ live.take (N + 1), m = r.seq) → (∀ r ∈ live.take (N + 1), m ≤ r.seq) → Sl.tail live next = m) := fun m h1 h2 => by
      rw [List.take_of_length_le (by rw [hn.out]; exact Nat.le_refl _)] at h1 h2
      exact Sl.tail_one h1 h2
    have HNX : Hid (∀ k m, k < N → (∃ r ∈ live.take (k + 1), m = r.seq) ∧ (∀ r ∈ live.take (k + 1), m ≤ r.seq) → (∃ r ∈ live.take (k + 1 + 1), min m (live.getD (k + 1) Gm.R0).seq = r.seq) ∧ ∀ r ∈ live.take (k + 1 + 1), min m (live.getD (k + 1) Gm.R0).seq ≤ r.seq) := fun k m hk h => take_min (by rw [hn.out]; omega) h.1 h.2
    clear hp0
    by_cases hcap : cap = 1
    · subst hcap
      obtain rfl : N = 0 := by omega
      have HR := Lib.hid (HEND.out p0.seq HST.out.1 HST.out.2)
      clear HEND HNX HST
      generalize Sl.tail live next = R at *
      go_enter Try.func12, Try.ntmps12
      go_wp2_with fail
      go_loopw [5, 20] (fun mv iv wr => mv = .int .i64 p0.seq ∧ iv = .int .i64 0 ∧ wr = w) (fun _ _ _ => 0)
      case atStart => exact ⟨rfl, rfl, rfl⟩
      case round =>
        obtain ⟨rfl, rfl, rfl⟩ := hrel
        go_wp2_with fail
        go_ret
        exact ⟨by rw [HR.out]; rfl, Below.refl _ _⟩
    · have HD := Lib.hid (regs_rest hb.out)
      have HDL : Hid ((live.drop 1).length = N) := by show _ = _; rw [List.length_drop, hn.out]; rfl
      have HG : Hid (∀ k, (live.drop 1).getD k Gm.R0 = live.getD (k + 1) Gm.R0) := fun k => by
        rw [List.getD_eq_getElem?_getD, List.getElem?_drop, ← List.getD_eq_getElem?_getD, Nat.add_comm]
      go_enter Try.func12, Try.ntmps12
      go_wp2_with fail
      go_loopw [5, 20] (fun mv iv wr => ∃ (k : Nat) (m : Int), k ≤ N ∧ iv = .int .i64 (k : Int) ∧ mv = .int .i64 m ∧ Hid ((∃ r ∈ live.take (k + 1), m = r.seq) ∧ ∀ r ∈ live.take (k + 1), m ≤ r.seq) ∧ Hid (Below w.heap.size w wr)) (fun _ i _ => N - (intOf i).toNat)
      case atStart => exact ⟨0, p0.seq, Nat.zero_le _, rfl, rfl, HST.out, Below.refl _ _⟩
      case round =>
        obtain ⟨k, m, hk, rfl, rfl, HM, HBW⟩ := hrel
        by_cases hlt : k < N
        · obtain ⟨r, hr⟩ : ∃ r, (live.drop 1).getD k Gm.R0 = r := ⟨_, rfl⟩
          obtain ⟨m0, m1, m2, m3', m4, m5, m6, m7, m8, m9⟩ := regs_at (HD.out.below HBW.out hB) k (by rw [HDL.out]; exact hlt) r hr
          simp only [arr_flat] at m0 m1 m2 m3' m4 m5 m6 m7 m8 m9
          have HM2 : Hid _ := HNX.out k m hlt HM.out
          rw [← HG.out k, hr] at HM2
          have e : (if r.seq < m then r.seq else m) = min m r.seq := by split <;> omega
          clear hr
          go_wp2_with fail
          go_roundw
          case rel => exact ⟨k + 1, _, by omega, by go_num, rfl, HM2.out, HBW.out.alloc HBW.out.size _⟩
          case measure => simp [intOf]; omega
        · obtain rfl : k = N := by omega
          have HR := Lib.hid (HEND.out m HM.out.1 HM.out.2)
          go_wp2_with fail
          go_ret
          exact ⟨by rw [HR.out]; rfl, HBW.out⟩
end Go.Proofs.Ytmkilbogdenljaa
