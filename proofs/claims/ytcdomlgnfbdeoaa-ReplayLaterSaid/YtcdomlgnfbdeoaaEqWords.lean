/-
  Fields and strings compared with themselves.
-/
import Derived.Test.YtcdomlgnfbdeoaaBase
import Derived.ChangeKeysEq
set_option maxRecDepth 100000
namespace Go.Proofs.Ytcdomlgnfbdeoaa
open Go.RowKit
theorem eq_fieldG {P : Program} (w : World) {e : TypeId} {f : Field} {nm : String} {off : Nat} (hf : (f.name, f.type, f.offset) = (nm, e, off)) (hn : nm ≠ "_") (d : Nat) (xs ys : Array Value) (a b : Value) (hx : (part e xs off).run P w = .ok a w) (hy : (part e ys off).run P w = .ok b w) (he : (Op.equalIn d e a b).run P w = .ok true w) (fs : List Field) :
    (Op.eqFields d xs ys (f :: fs)).run P w = (Op.eqFields d xs ys fs).run P w := by
  obtain ⟨h1, h2, h3⟩ : f.name = nm ∧ f.type = e ∧ f.offset = off := by simpa using hf
  rw [Op.eqFields, if_pos (by rw [h1]; exact hn), h2, h3]
  simp only [Sem.run_bind, hx, hy, Result.andThen_ok, he, Sem.run_ite, Sem.run_pure]
  rfl
theorem ba_self (a : ByteArray) : (a == a) = true := by
  show (a.data == a.data) = true
  exact beq_self_eq_true _
theorem str_self (d : Nat) (w : World) (k : ByteArray) : (Op.equalIn (d + 1) 9 (.string k) (.string k)).run Try.prog w = .ok true w := by
  simp [Op.equalIn, run_underlying Try.underlying9, ba_self]
end Go.Proofs.Ytcdomlgnfbdeoaa
