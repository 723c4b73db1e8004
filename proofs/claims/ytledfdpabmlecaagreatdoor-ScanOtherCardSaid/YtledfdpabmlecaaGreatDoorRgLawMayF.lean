/-
  The walks of Header and of the reference's May, and the law RegionMay.
-/
import Derived.Test.YtledfdpabmlecaaGreatDoorFoldM
set_option maxRecDepth 100000
namespace Go.Proofs.YtledfdpabmlecaaGreatDoor
open Go.RowKit
theorem sd_stored6 {w w1 : World} {r : Nat} {a b c d e f a' b' c' d' e' f' : Value} {t : TypeId} (h : Sd w r (.cells #[a, b, c, d, e, f] t (0, 0)) w1) (hr : w.heap.size ≤ r) : Sd w r (.cells #[a', b', c', d', e', f'] t (0, 0)) ((((((w1.setCell ⟨r, 0, none⟩ a').setCell ⟨r, 1, none⟩ b').setCell ⟨r, 2, none⟩ c').setCell ⟨r, 3, none⟩ d').setCell ⟨r, 4, none⟩ e').setCell ⟨r, 5, none⟩ f') :=
  ⟨stored6 h.1, h.2.grown (stored6_grown w1 r a' b' c' d' e' f') h.2.size (fun g e => by injection e with e; omega)⟩
theorem may_ways (L : Sb.L) (h : Hd.H) (u v : Bool) (hu : decide (Sb.form L) = u) (hv : decide (Hd.valid h) = v) :
    (Rg.may L h = 4 ∧ (u = false ∨ (u = true ∧ (v = false ∨ (v = true ∧ ((h.ver != L.ver) = true ∨ ((h.ver != L.ver) = false ∧ (h.lay != L.id) = true))))))) ∨
    (u = true ∧ v = true ∧ (h.ver != L.ver) = false ∧ (h.lay != L.id) = false ∧ ((Rg.may L h = 2 ∧ decide (L.reg ≤ h.slot) = true) ∨ (Rg.may L h = 0 ∧ decide (L.reg ≤ h.slot) = false))) := by
  rcases open_ways L h v hv with ⟨hm, rfl | ⟨rfl, e1 | ⟨e1, e2⟩⟩⟩ | ⟨hm, hval, rfl, e1, e2⟩
  · cases u
    · exact .inl ⟨hm, .inl rfl⟩
    · exact .inl ⟨hm, .inr ⟨rfl, .inl rfl⟩⟩
  · cases u
    · exact .inl ⟨hm, .inl rfl⟩
    · exact .inl ⟨hm, .inr ⟨rfl, .inr ⟨rfl, .inl e1⟩⟩⟩
  · cases u
    · exact .inl ⟨hm, .inl rfl⟩
    · exact .inl ⟨hm, .inr ⟨rfl, .inr ⟨rfl, .inr ⟨e1, e2⟩⟩⟩⟩
  · by_cases hf : Sb.form L
    · obtain rfl : true = u := by rw [← hu, decide_eq_true hf]
      refine .inr ⟨rfl, rfl, e1, e2, ?_⟩
      rw [hm]
      have h1 := hval.2.1
      have h2 := hval.2.2.2.1
      by_cases hs : L.reg ≤ h.slot
      · exact .inl ⟨by unfold Pk.may; rw [if_pos hf, if_neg fun h => by have := h.1.2.2; omega], decide_eq_true hs⟩
      · exact .inr ⟨Pk.may_zero ⟨⟨hf, h1.1, by omega⟩, h2⟩, decide_eq_false hs⟩
    · obtain rfl : false = u := by rw [← hu, decide_eq_false hf]
      exact .inl ⟨by rw [hm]; unfold Pk.may; rw [if_neg hf], .inl rfl⟩
theorem begun_out {fs : Flash} {n : Nat} {x : Int} {b : List Nat} (h : Plain fs) (hx : (n : Int) ≤ x) : Rg.begun fs n x b = (fs, 2) := by
  have h1 : ¬ fs.dead = true := by rw [h.dead]; simp
  have e1 : fs.writeErr n x b = 2 := by unfold Flash.writeErr; rw [if_neg h1, if_pos (.inr hx)]
  have e2 : fs.write n x b = fs := by unfold Flash.write; rw [if_pos (.inr (.inr (.inl hx)))]
  unfold Rg.begun Rg.syncFs Rg.syncErr
  simp only
  rw [e1, e2, if_neg (by decide), if_neg (by decide)]
end Go.Proofs.YtledfdpabmlecaaGreatDoor
