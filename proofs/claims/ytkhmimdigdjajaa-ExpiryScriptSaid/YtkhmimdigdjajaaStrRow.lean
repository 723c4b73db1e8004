/-
  Strings in a row.
-/
import Derived.Test.YtkhmimdigdjajaaArr
set_option maxRecDepth 100000
namespace Go.Proofs.Ytkhmimdigdjajaa
open Go.RowKit
/-- Strings read through a slice. -/
def strS : Shape ByteArray := ⟨fun s => [.string s], ⟨#[]⟩, 1, fun _ => rfl, by decide, fun a u hu => by
  simp only [List.mem_cons, List.not_mem_nil, or_false] at hu
  subst hu; rfl⟩
theorem strs_at {w : World} {lo B : Nat} {ad : Addr} {l : List ByteArray} (h : Arr strS w lo B (some ad) l) (k : Nat) (hk : k < l.length) (s : ByteArray) (e : l.getD k ⟨#[]⟩ = s) : w.cell? (ad.add k) = some (.string s) := by
  have := h.cell k hk 0 (.string s) (by rw [show l.getD k strS.z = s from e]; rfl)
  rwa [show k * strS.m + 0 = k from Nat.mul_one k] at this
/-- The first ten bytes of a key. -/
def ten (s : ByteArray) : ByteArray := s.extract 0 (min s.size 10)
theorem ten_size (s : ByteArray) : (ten s).size ≤ 1048576 := by
  unfold ten
  rw [ByteArray.size_extract]
  omega
end Go.Proofs.Ytkhmimdigdjajaa
