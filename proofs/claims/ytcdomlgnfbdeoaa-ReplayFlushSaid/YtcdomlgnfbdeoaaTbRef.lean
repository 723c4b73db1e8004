/-
  The reference's list of pairs: its box, where a key lies, the comparison of two lists.
-/
import Derived.Test.YtcdomlgnfbdeoaaTbEq
import Derived.Test.YtcdomlgnfbdeoaaTbPr
import Derived.Test.YtcdomlgnfbdeoaaHold
import Derived.BigQuiet
import Derived.Test.YtcdomlgnfbdeoaaRowApp
set_option maxRecDepth 100000
namespace Go.Proofs.Ytcdomlgnfbdeoaa
open Go.RowKit
/-- The reference's box: one row of pairs. -/
def RT (R : Nat → Prop) (w : World) (m : Nat) (L : List Tb.Pr) : Prop :=
  ∃ v, R m ∧ w.heap[m]? = some (.cells #[v] 57 (0, 0)) ∧ SRow (fun k => R k ∧ k ≠ m) 38 6 w v L.length (prS.flat L)
theorem RT.kept {R T : Nat → Prop} {w w' : World} {m : Nat} {L : List Tb.Pr} (h : RT R w m L) (hk : Kept T w w') (hd : ∀ k, k < w.heap.size → R k → ¬ T k) : RT R w' m L := by
  obtain ⟨v, h1, h2, h3⟩ := h
  exact ⟨v, h1, (hk.block m (Array.getElem?_eq_some_iff.1 h2).1 (hd m (Array.getElem?_eq_some_iff.1 h2).1 h1)).trans h2, h3.kept hk fun k hl h => hd k hl h.1⟩
theorem RT.next {R : Nat → Prop} {w w' : World} {m : Nat} {L : List Tb.Pr} (h : RT R w m L) (hb : Below w.heap.size w w') : RT R w' m L := h.kept (Kept.of_new hb : Kept (fun _ => False) w w') fun _ _ _ e => e
theorem RT.mono {R T : Nat → Prop} {w : World} {m : Nat} {L : List Tb.Pr} (h : RT R w m L) (hs : ∀ k, k < w.heap.size → R k → T k) : RT T w m L := by
  obtain ⟨v, h1, h2, h3⟩ := h
  exact ⟨v, hs m (Array.getElem?_eq_some_iff.1 h2).1 h1, h2, h3.mono fun k hl h => ⟨hs k hl h.1, h.2⟩⟩
theorem box_cell {w : World} {m : Nat} {v : Value} {t : TypeId} (h : w.heap[m]? = some (.cells #[v] t (0, 0))) : w.cell? ⟨m, 0, none⟩ = some v := by
  rw [cell_of_row _ _ 0 _ _ _ h]; rfl
/-- The key of one pair of a row, as a load spells it. -/
theorem prs_key {w : World} {lo B : Nat} {ad : Addr} {L : List Tb.Pr} (h : Arr prS w lo B (some ad) L) (i : Nat) (hi : i < L.length) (k : ByteArray) (e : (Tb.gp L i).1 = k) : w.cell? (ad.add (i * 6)) = some (.string k) := by
  have := h.cell i hi 0 (.string k) (by rw [show L.getD i prS.z = Tb.gp L i from rfl, ← e]; rfl)
  exact this
/-- Where a key lies in a list of pairs, and whether it lies there. -/
def AtIs (L : List Tb.Pr) (k : ByteArray) (w : World) (e : Ending) (w' : World) : Prop :=
  ∃ i : Nat, ∃ b, e = .returned (.tuple #[.int .i64 (i : Int), .bool b]) ∧ Tb.At L k i ∧ ((b = true ∧ i < L.length ∧ (Tb.gp L i).1 = k) ∨ (b = false ∧ ¬ (i < L.length ∧ (Tb.gp L i).1 = k))) ∧ Below w.heap.size w w'
set_option maxHeartbeats 4000000 in
theorem refat_any (m : Nat) (k : ByteArray) (L : List Tb.Pr) (R : Nat → Prop) (w : World) (hL : L.length ≤ 1000) (hT : Hid (RT R w m L)) :
    Calls Try.prog 28 #[.pointer (some ⟨m, 0, none⟩), .string k] w (AtIs L k w) := by
  obtain ⟨v, hR, hm, hr⟩ := hT.out
  obtain ⟨n, hn⟩ : ∃ n, L.length = n := ⟨_, rfl⟩
  have hr2 : ARow prS 38 w 0 v L.length L := hr.1
  obtain ⟨A, c, rfl, hsl, ha⟩ := hr2.open_
  have HA := Lib.hid ha
  have hcap := hsl.2.2
  have hnc := hsl.2.1
  have c0 := box_cell hm
  rw [hn] at hL hnc c0
  have HN := Lib.hid hn
  clear hm hr hr2 ha hsl hn
  go_enter Try.func28, Try.ntmps28
  go_wp2_with fail
  go_loopw [6] (fun iv wr => ∃ i : Nat, i ≤ n ∧ iv = .int .i64 (i : Int) ∧ Hid (∀ j, j < i → Tb.kl (Tb.gp L j).1 k = true) ∧ wr = w) (fun i _ => n - (Go.RowKit.intOf i).toNat)
  case atStart => exact ⟨0, Nat.zero_le _, rfl, fun j h => absurd h (Nat.not_lt_zero _), rfl⟩
  case round =>
    obtain ⟨i, hi, rfl, hlo, rfl⟩ := hrel
    have HB9 : ∀ N, Hid (Below wr.heap.size wr (wr.drewN N)) := fun N => below_drewN _ N
    by_cases hlt : i < n
    · have hiL : i < L.length := by rw [HN.out]; exact hlt
      obtain ⟨ad, rfl⟩ := HA.out.some hiL
      obtain ⟨kk, hkk⟩ : ∃ kk, (Tb.gp L i).1 = kk := ⟨_, rfl⟩
      have c1 := prs_key HA.out i hiL kk hkk
      have HKK := Lib.hid hkk
      have HiL := Lib.hid hiL
      clear hkk hiL
      by_cases hkl : Tb.kl kk k = true
      · have hbl := bl_of hkl
        have HLO : Hid (∀ j, j < i + 1 → Tb.kl (Tb.gp L j).1 k = true) := fun j hj => by
          rcases Nat.lt_or_ge j i with h | h
          · exact hlo.out j h
          · obtain rfl : j = i := by omega
            rw [HKK.out]; exact hkl
        clear hkl
        go_wp2_with fail
        go_roundw
        case rel => exact ⟨i + 1, by omega, by go_num, HLO, trivial⟩
        case measure => simp [Go.RowKit.intOf]; omega
      · have hkf : Tb.kl kk k = false := by simpa using hkl
        have hbl : Op.bytesLess kk.toList k.toList = false := by rw [Lib.toList_data, Lib.toList_data]; exact hkf
        have HAT : Hid (Tb.At L k i) := ⟨Nat.le_of_lt HiL.out, hlo.out, fun _ => by rw [HKK.out]; exact hkf⟩
        clear hkl hkf
        by_cases hke : kk = k
        · have hkt : (kk.toList == k.toList) = true := by rw [key_eq]; exact decide_eq_true hke
          have HE : Hid (Tb.At L k i ∧ (i < L.length ∧ (Tb.gp L i).1 = k)) := ⟨HAT.out, HiL.out, HKK.out.trans hke⟩
          clear hke
          go_upto_region 4 with fail
          go_quiet (fail)
          go_wp2_with fail
          go_ret2
          exact ⟨i, true, rfl, HE.out.1, .inl ⟨rfl, HE.out.2⟩, HB9 _⟩
        · have hkt : (kk.toList == k.toList) = false := by rw [key_eq]; exact decide_eq_false hke
          have HE : Hid (Tb.At L k i ∧ ¬ (i < L.length ∧ (Tb.gp L i).1 = k)) := ⟨HAT.out, fun h => hke (HKK.out ▸ h.2)⟩
          clear hke
          go_upto_region 4 with fail
          go_quiet (fail)
          go_wp2_with fail
          go_ret2
          exact ⟨i, false, rfl, HE.out.1, .inr ⟨rfl, HE.out.2⟩, HB9 _⟩
    · obtain rfl : i = n := by omega
      have HE : Hid (Tb.At L k i ∧ ¬ (i < L.length ∧ (Tb.gp L i).1 = k)) := ⟨⟨Nat.le_of_eq HN.out.symm, hlo.out, fun h => absurd h (by rw [HN.out]; exact Nat.lt_irrefl _)⟩, fun h => absurd h.1 (by rw [HN.out]; exact Nat.lt_irrefl _)⟩
      clear hlt
      go_upto_region 4 with fail
      go_quiet (fail)
      go_wp2_with fail
      go_ret2
      exact ⟨i, false, rfl, HE.out.1, .inr ⟨rfl, HE.out.2⟩, HB9 _⟩
set_option maxHeartbeats 4000000 in
theorem refpairs_any (A1 A2 : Option Addr) (n c1 c2 lo1 B1 lo2 B2 : Nat) (L : List Tb.Pr) (w : World) (hs1 : SlIs A1 n c1) (hs2 : SlIs A2 n c2) (hl : Hid (L.length = n)) (hA1 : A1 = none ∨ ∃ g, A1 = some ⟨g, 0, none⟩) (hA2 : A2 = none ∨ ∃ g, A2 = some ⟨g, 0, none⟩) (h1 : Hid (Arr prS w lo1 B1 A1 L)) (h2 : Hid (Arr prS w lo2 B2 A2 L)) (hL : n ≤ 1000) :
    Calls Try.prog 9 #[.slice A1 n c1, .slice A2 n c2] w fun e w' => e = .returned (.bool true) ∧ Below w.heap.size w w' := by
  have hcap1 := hs1.2.2
  have hnc1 := hs1.2.1
  have hcap2 := hs2.2.2
  have hnc2 := hs2.2.1
  have HA1 := Lib.hid hA1
  have HA2 := Lib.hid hA2
  clear hA1 hA2
  have hnn : ((n : Int) == (n : Int)) = true := beq_self_eq_true _
  have hnn2 : (n == n) = true := beq_self_eq_true _
  go_enter Try.func9, Try.ntmps9
  go_wp2_with fail
  go_loopw [13] (fun iv wr => ∃ i : Nat, i ≤ n ∧ iv = .int .i64 (i : Int) ∧ Hid (∃ N, wr = w.drewN N)) (fun i _ => n - (Go.RowKit.intOf i).toNat)
  case atStart => exact ⟨0, Nat.zero_le _, rfl, 0, rfl⟩
  case round =>
    obtain ⟨i, hi, rfl, hdr⟩ := hrel
    obtain ⟨N, rfl⟩ := hdr.out
    by_cases hlt : i < n
    · have hiL : i < L.length := by rw [hl.out]; exact hlt
      obtain ⟨ad1, rfl⟩ := h1.out.some hiL
      obtain ⟨ad2, rfl⟩ := h2.out.some hiL
      obtain ⟨⟨kk, e0, e1, e2, e3, e4⟩, hp⟩ : ∃ p : Tb.Pr, Tb.gp L i = p := ⟨_, rfl⟩
      obtain ⟨g1, rfl⟩ : ∃ g, ad1 = ⟨g, 0, none⟩ := by
        rcases HA1.out with h | ⟨g, h⟩
        · cases h
        · injection h with h; exact ⟨g, h⟩
      obtain ⟨g2, rfl⟩ : ∃ g, ad2 = ⟨g, 0, none⟩ := by
        rcases HA2.out with h | ⟨g, h⟩
        · cases h
        · injection h with h; exact ⟨g, h⟩
      obtain ⟨a0, a1, a2, a3, a4, a5⟩ := prs_at (h1.out.heap (w' := w.drewN N) rfl) i hiL _ _ _ _ _ _ hp
      obtain ⟨b0, b1, b2, b3, b4, b5⟩ := prs_at (h2.out.heap (w' := w.drewN N) rfl) i hiL _ _ _ _ _ _ hp
      have hq := fun W => pair_self W kk e0 e1 e2 e3 e4
      have HW : ∀ N', Hid (∃ M, (w.drewN N).drewN N' = w.drewN M) := fun N' => ⟨N + N', by simp [World.drewN, Nat.add_assoc]⟩
      clear hp
      generalize w.drewN N = wa at *
      go_upto_region 6 with fail
      go_quiet (fail)
      go_wp2_with fail
      go_roundw
      case rel => exact ⟨i + 1, by omega, by go_num, HW _⟩
      case measure => simp [Go.RowKit.intOf]; omega
    · obtain rfl : i = n := by omega
      have HB9 := Lib.hid (below_drewN w N)
      clear hlt
      go_wp2_with fail
      go_ret
      exact ⟨rfl, HB9.out⟩
end Go.Proofs.Ytcdomlgnfbdeoaa
