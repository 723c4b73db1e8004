/-
  SbPut: The walks of superblock.putLayout and superblock.payload.
  SbEncode: The walk of superblock.Encode.
-/
import Derived.Test.YtpidbakjpfngnaaDoorSbTwo
section
namespace Go.Proofs.YtpidbakjpfngnaaDoor
open Go.RowKit
/-- n bytes l and seven more, a layout's. -/
def DidLay (w : World) (l : List Nat) (n : Nat) (L : Sb.L) (r : Ending) (w' : World) : Prop := ∃ A' n' c' p, r = .returned (.slice A' n' c') ∧ Hid (p = l ++ Sb.lay L) ∧ Hid (n' = n + 7) ∧ Row w p n' A' c' w'
/-- A layout that can be written. -/
def Sb.Wr (L : Sb.L) : Prop := Sb.form L ∨ L = Sb.L0
theorem wr_nat {L : Sb.L} (h : Sb.Wr L) : ∃ (a b d : Nat), L = ⟨(a : Int), (b : Int), L.rs, (d : Int)⟩ ∧ a ≤ 4294967295 ∧ b ≤ 2 ∧ d ≤ 16 ∧ (L.rs = 0 ∨ Sb.pw L.rs) := by
  rcases h with ⟨h1, h2, h3, h4⟩ | rfl
  · obtain ⟨i, v, r, g⟩ := L
    simp only at h1 h2 h3 h4 ⊢
    obtain ⟨i, rfl⟩ := Int.eq_ofNat_of_zero_le (show 0 ≤ i by omega)
    obtain ⟨v, rfl⟩ := Int.eq_ofNat_of_zero_le (show 0 ≤ v by omega)
    obtain ⟨g, rfl⟩ := Int.eq_ofNat_of_zero_le (show 0 ≤ g by omega)
    exact ⟨i, v, g, rfl, by omega, by omega, by omega, .inr h3⟩
  · exact ⟨0, 0, 0, rfl, by decide, by decide, by decide, .inl rfl⟩
end Go.Proofs.YtpidbakjpfngnaaDoor
end
section
namespace Go.Proofs.YtpidbakjpfngnaaDoor
open Go.RowKit
theorem valid_wr {s : Sb.S} (hv : Sb.valid s) : Sb.Wr s.t ∧ Sb.Wr s.h ∧ s.f.length ≤ 2 ∧ (s.f.length = 2 → Sb.Wr (s.f.getD 1 Sb.L0)) ∧ (0 ≤ s.phase ∧ s.phase ≤ 3) := by
  have hf := Sb.valid_f hv
  refine ⟨.inl hv.1.2.2.2.2, ?_⟩
  rcases hf with ⟨h, h2, h3⟩ | ⟨h, h2, h3⟩ | ⟨g, h, h2, hg, h3⟩
  · rw [h, h3]
    exact ⟨.inr h2, by decide, (fun e => by cases e), by decide⟩
  · rw [h, h3]
    exact ⟨.inl h2, by simp, (fun e => by cases e), by decide⟩
  · rw [h, h3]
    exact ⟨.inl h2, by simp, fun _ => .inl hg, by decide⟩
end Go.Proofs.YtpidbakjpfngnaaDoor
end
