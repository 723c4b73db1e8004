/-
  SbHome: The walks of superblock.comesFromHome and superblock.returnsFrom.
  SbSuits: The walk of superblock.suitsPhase.
  SbValid: The walk of superblock.Valid.
-/
import Derived.Test.YtpidbakjpfngnaaDoorSbOne
section
namespace Go.Proofs.YtpidbakjpfngnaaDoor
open Go.RowKit
theorem home_ways (t0 t1 t2 t3 : Bool) : t0 = false ∨ (t0 = true ∧ t1 = false) ∨ (t0 = true ∧ t1 = true ∧ t2 = false) ∨ (t0 = true ∧ t1 = true ∧ t2 = true ∧ t3 = false) ∨ (t0 = true ∧ t1 = true ∧ t2 = true ∧ t3 = true) := five_ways t0 t1 t2 t3
theorem Ls.first {B : Nat} {w : World} {ad : Addr} {f : List Sb.L} (h : Ls w B (some ad) f) (hk : 0 < f.length) (a b c d : Int) (e : f.getD 0 Sb.L0 = ⟨a, b, c, d⟩) :
    w.cell? ad = some (.int .i64 a) ∧ w.cell? ⟨ad.block, ad.off + 1, none⟩ = some (.int .i64 b) ∧ w.cell? ⟨ad.block, ad.off + 2, none⟩ = some (.int .i64 c) ∧ w.cell? ⟨ad.block, ad.off + 3, none⟩ = some (.int .i64 d) := h.at 0 hk a b c d e
theorem Ls.second {B : Nat} {w : World} {ad : Addr} {f : List Sb.L} (h : Ls w B (some ad) f) (hk : 1 < f.length) (a b c d : Int) (e : f.getD 1 Sb.L0 = ⟨a, b, c, d⟩) :
    w.cell? ⟨ad.block, ad.off + 4, none⟩ = some (.int .i64 a) ∧ w.cell? ⟨ad.block, ad.off + 5, none⟩ = some (.int .i64 b) ∧ w.cell? ⟨ad.block, ad.off + 6, none⟩ = some (.int .i64 c) ∧ w.cell? ⟨ad.block, ad.off + 7, none⟩ = some (.int .i64 d) := h.at 1 hk a b c d e
end Go.Proofs.YtpidbakjpfngnaaDoor
end
section
namespace Go.Proofs.YtpidbakjpfngnaaDoor
open Go.RowKit
theorem suits_one {s : Sb.S} (h : s.phase = 1) : decide (Sb.suits s) = (Sb.sameL s.h Sb.L0 && decide (s.f.length = 0)) := by
  rw [Sb.sameL_decide, ← Bool.decide_and]
  refine decide_eq_decide.2 ⟨fun k => ?_, fun k => .inl ⟨h, k.1, k.2⟩⟩
  rcases k with ⟨_, k1, k2⟩ | ⟨k, _⟩ | ⟨k, _⟩
  · exact ⟨k1, k2⟩
  · omega
  · omega
theorem suits_two {s : Sb.S} (h : s.phase = 2) : decide (Sb.suits s) = (decide (Sb.home s) && decide (s.f.length = 1)) := by
  rw [← Bool.decide_and]
  refine decide_eq_decide.2 ⟨fun k => ?_, fun k => .inr (.inl ⟨h, k.1, k.2⟩)⟩
  rcases k with ⟨k, _⟩ | ⟨_, k1, k2⟩ | ⟨k, _⟩
  · omega
  · exact ⟨k1, k2⟩
  · omega
theorem suits_three {s : Sb.S} (h : s.phase = 3) : decide (Sb.suits s) = (decide (Sb.home s) && (decide (s.f.length = 2) && decide (Sb.back s (s.f.getD 1 Sb.L0)))) := by
  rw [← Bool.decide_and, ← Bool.decide_and]
  refine decide_eq_decide.2 ⟨fun k => ?_, fun k => .inr (.inr ⟨h, k.1, k.2⟩)⟩
  rcases k with ⟨k, _⟩ | ⟨k, _⟩ | ⟨_, k1, k2⟩
  · omega
  · omega
  · exact ⟨k1, k2⟩
theorem suits_none {s : Sb.S} (h1 : s.phase ≠ 1) (h2 : s.phase ≠ 2) (h3 : s.phase ≠ 3) : decide (Sb.suits s) = false := by
  refine decide_eq_false fun k => ?_
  rcases k with ⟨k, _⟩ | ⟨k, _⟩ | ⟨k, _⟩
  · exact h1 k
  · exact h2 k
  · exact h3 k
theorem len_is {n k : Nat} (h : n ≠ k) : ((n : Int) == (k : Int)) = false := by rw [beq_eq_false_iff_ne]; omega
theorem beq_no {a b : Int} (h : a ≠ b) : (a == b) = false := by rw [beq_eq_false_iff_ne]; exact h
end Go.Proofs.YtpidbakjpfngnaaDoor
end
section
namespace Go.Proofs.YtpidbakjpfngnaaDoor
open Go.RowKit
theorem ways5 (t0 t1 t2 t3 t4 : Bool) : t0 = false ∨ (t0 = true ∧ t1 = false) ∨ (t0 = true ∧ t1 = true ∧ t2 = false) ∨ (t0 = true ∧ t1 = true ∧ t2 = true ∧ t3 = false) ∨ (t0 = true ∧ t1 = true ∧ t2 = true ∧ t3 = true ∧ t4 = false) ∨ (t0 = true ∧ t1 = true ∧ t2 = true ∧ t3 = true ∧ t4 = true) := by
  cases t0 <;> cases t1 <;> cases t2 <;> cases t3 <;> cases t4 <;> simp
theorem valid_bool (s : Sb.S) : decide (Sb.valid s) = (decide (1 ≤ s.gen ∧ s.gen ≤ 1099511627775) && (decide (0 ≤ s.mig ∧ s.mig ≤ 4294967295) && (decide (0 ≤ s.tail ∧ s.tail ≤ 281474976710655) && (decide (0 ≤ s.now ∧ s.now ≤ 549755813888) && (decide (Sb.form s.t) && decide (Sb.suits s)))))) := by
  simp only [← Bool.decide_and]
  exact decide_eq_decide.2 ⟨fun ⟨⟨h1, h2, h3, h4, h5⟩, h6⟩ => ⟨h1, h2, h3, h4, h5, h6⟩, fun ⟨h1, h2, h3, h4, h5, h6⟩ => ⟨⟨h1, h2, h3, h4, h5⟩, h6⟩⟩
end Go.Proofs.YtpidbakjpfngnaaDoor
end
