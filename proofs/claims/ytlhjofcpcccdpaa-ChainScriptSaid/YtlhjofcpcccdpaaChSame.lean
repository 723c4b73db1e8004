/-
  The comparison of a chain's items with the reference's.
-/
import Derived.Test.YtlhjofcpcccdpaaChRefSeqs
set_option maxRecDepth 100000
namespace Go.Proofs.Ytlhjofcpcccdpaa
open Go.RowKit Go.Maps
set_option maxHeartbeats 4000000 in
theorem chsame_any (g1 n c1 c2 lo B : Nat) (A2 : Option Addr) (l : List Ch.It) (L : List Ch.Ent) (w : World) (hn : n ≤ 1000) (hc1 : n ≤ c1) (hc1' : c1 ≤ maxLen) (hs2 : SlIs A2 n c2) (hl : Hid (l.length = n)) (hm : Hid (L.map (fun p => (p.off, p.k)) = l)) (h1 : Hid (ItAt w g1 l)) (h2 : Hid (Arr entS w lo B A2 L)) (hA2 : A2 = none ∨ ∃ g, A2 = some ⟨g, 0, none⟩) :
    Calls Try.prog 11 #[.slice (some ⟨g1, 0, none⟩) n c1, .slice A2 n c2] w fun e w' => e = .returned (.bool true) ∧ Below w.heap.size w w' := by
  have hcap2 := hs2.2.2
  have hnc2 := hs2.2.1
  have hLn : Hid (L.length = n) := by
    show _ = _
    rw [← hl.out, ← hm.out, List.length_map]
  have hc19 : c1 ≤ 9223372036854775807 := by unfold maxLen at hc1'; omega
  have HA2 := Lib.hid hA2
  clear hA2 hs2 hc1'
  have hnn : ((n : Int) != (n : Int)) = false := by simp
  have hnn2 : (n != n) = false := by simp
  go_enter Try.func11, Try.ntmps11
  go_wp2_with fail
  go_loopw [5, 13] (fun _ iv wr => ∃ i : Nat, i ≤ n ∧ iv = .int .i64 (i : Int) ∧ Hid (∃ N, wr = w.drewN N)) (fun _ i _ => n - (Go.RowKit.intOf i).toNat)
  case atStart => exact ⟨0, Nat.zero_le _, rfl, 0, rfl⟩
  case round =>
    obtain ⟨i, hi, rfl, hdr⟩ := hrel
    obtain ⟨N, rfl⟩ := hdr.out
    by_cases hlt : i < n
    · obtain ⟨ad2, rfl⟩ := h2.out.some (k := i) (by rw [hLn.out]; exact hlt)
      obtain ⟨g2, rfl⟩ : ∃ g, ad2 = ⟨g, 0, none⟩ := by
        rcases HA2.out with h | ⟨g, h⟩
        · cases h
        · injection h with h; exact ⟨g, h⟩
      obtain ⟨⟨s, o, k⟩, hp⟩ : ∃ p, Ch.ge L i = p := ⟨_, rfl⟩
      have hq : l.getD i Ch.It0 = (o, k) := by
        rw [← hm.out, List.getD_eq_getElem?_getD, List.getElem?_map, List.getElem?_eq_getElem (by rw [hLn.out]; exact hlt)]
        rw [Ch.ge_in (by rw [hLn.out]; exact hlt)] at hp
        rw [hp]; rfl
      have a := h1.out i (by rw [hl.out]; exact hlt)
      rw [hq] at a
      obtain ⟨(a0 : (w.drewN N).cell? ⟨g1, i * 2, none⟩ = some (.int .i64 o)), (a1 : (w.drewN N).cell? ⟨g1, i * 2 + 1, none⟩ = some (.string k))⟩ := a
      obtain ⟨-, b1, b2⟩ := ents_at (h2.out.heap (w' := w.drewN N) rfl) i (by rw [hLn.out]; exact hlt) _ _ _ hp
      have hoo : (o != o) = false := by simp
      have hkk : (k.toList == k.toList) = true := beq_self_eq_true _
      have hkk2 : (k.toList != k.toList) = false := by simp
      have HW : ∀ N', Hid (∃ M, (w.drewN N).drewN N' = w.drewN M) := fun N' => ⟨N + N', by simp [World.drewN, Nat.add_assoc]⟩
      clear hp hq hdr
      generalize w.drewN N = wa at *
      go_upto_region 6 with fail
      go_quiet (fail)
      go_wp2_with fail
      go_roundw
      case rel => exact ⟨i + 1, by omega, by go_num, HW _⟩
      case measure => simp [Go.RowKit.intOf]; omega
    · obtain rfl : i = n := by omega
      have HB9 := Lib.hid (below_drewN w N)
      clear hlt
      go_wp2_with fail
      go_ret
      exact ⟨rfl, HB9.out⟩
end Go.Proofs.Ytlhjofcpcccdpaa
