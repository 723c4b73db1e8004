/-
  What came in, opened: hashes.
-/
import Derived.Test.YtbhmlfgofemjlaaShapeIn
set_option maxRecDepth 100000
namespace Go.Proofs.Ytbhmlfgofemjlaa
open Go.ChangeShapes Go.WideShapes Go.ChangeAt Go.RowKit
def u64S : Shape Nat := ⟨fun (k : Nat) => [.int .u64 (k : Int)], 0, 1, fun _ => rfl, by decide, fun a u hu => by
  simp only [List.mem_cons, List.not_mem_nil, or_false] at hu
  subst hu; rfl⟩
theorem u64s_at {w : World} {lo B : Nat} {ad : Addr} {l : List Nat} (h : Arr u64S w lo B (some ad) l) (k : Nat) (hk : k < l.length) : w.cell? (ad.add k) = some (.int .u64 (l.getD k 0 : Int)) := by
  have := h.cell k hk 0 (.int .u64 (l.getD k 0 : Int)) rfl
  rwa [show k * u64S.m + 0 = k from Nat.mul_one k] at this
section
variable {H : Type} {enc : TypeId × Value → H} {W : World}
theorem u64s_in {base : Nat} {v : Value} {d : DataW H} {ps : List MemPlace} (hval : Value.okWide Try.prog W .any base 22 v) (hd : DataW.Trod enc Try.prog W 0 (fun _ => true) true 22 v d ps) :
    ∃ A n cap l, v = .slice A n cap ∧ SlIs A n cap ∧ Hid (l.length = n) ∧ Hid (Arr u64S W 0 W.heap.size A l) ∧ Hid (∀ k, k < n → l.getD k 0 < 18446744073709551616) := by
  obtain ⟨A, n, cap, rfl⟩ := okWide_slice Try.underlying22 hval
  obtain ⟨fuel, hf⟩ := hd
  have h : DataW.trod enc Try.prog W 0 (fun _ => true) true fuel 22 [.slice A n cap] = some (d, ps) := hf
  obtain ⟨A', n', c', l, e, h1, h2, h3, h4⟩ := shape_trod u64S (fun k => k < 18446744073709551616) Try.underlying22 (show _ = 1 by kernel_rfl) (fun {fuel cs y} hlen h2 => by
    obtain ⟨s, e, _, hw⟩ := DataW.trod_int Try.underlying32 h2
    obtain ⟨k, rfl, hk⟩ := u64_in hw
    exact ⟨k, e, hk⟩) h
  exact ⟨A', n', c', l, e, h1, h2, h3, h4⟩
end
end Go.Proofs.Ytbhmlfgofemjlaa
