/-
  Two layouts compared, at any depth: alone, and as a field.
-/
import Derived.Test.YtmkilbogdenljaaSbOne
set_option maxRecDepth 100000
namespace Go.Proofs.Ytmkilbogdenljaa
open Go.RowKit
theorem lay_eqd (d : Nat) (w : World) (a0 a1 a2 a3 b0 b1 b2 b3 : Int) : (Op.equalIn (d + 2) 23 (.agg #[.int .i64 a0, .int .i64 a1, .int .i64 a2, .int .i64 a3]) (.agg #[.int .i64 b0, .int .i64 b1, .int .i64 b2, .int .i64 b3])).run Try.prog w = .ok (Sb.sameL ⟨a0, a1, a2, a3⟩ ⟨b0, b1, b2, b3⟩) w := by
  rw [run_equalIn_struct w (d + 1) _ _ _ lay_under lay_stood]
  have hf := lay_fields
  generalize (Try.prog.fieldsOf 23).toList = fs at hf ⊢
  obtain ⟨f0, r0, rfl, e0, hf⟩ := List.map_eq_cons_iff.1 hf
  obtain ⟨f1, r1, rfl, e1, hf⟩ := List.map_eq_cons_iff.1 hf
  obtain ⟨f2, r2, rfl, e2, hf⟩ := List.map_eq_cons_iff.1 hf
  obtain ⟨f3, r3, rfl, e3, hf⟩ := List.map_eq_cons_iff.1 hf
  obtain rfl := List.map_eq_nil_iff.1 hf
  rw [eq_field w Try.underlying3 e0 (by decide) d _ _ a0 b0 rfl rfl, eq_field w Try.underlying3 e1 (by decide) d _ _ a1 b1 rfl rfl, eq_field w Try.underlying3 e2 (by decide) d _ _ a2 b2 rfl rfl, eq_field w Try.underlying3 e3 (by decide) d _ _ a3 b3 rfl rfl]
  unfold Sb.sameL Op.eqFields
  simp only
  generalize (a0 == b0) = q0
  generalize (a1 == b1) = q1
  generalize (a2 == b2) = q2
  generalize (a3 == b3) = q3
  cases q0 <;> cases q1 <;> cases q2 <;> cases q3 <;> rfl
theorem part_lay (w : World) (cs : Array Value) (j : Nat) (v : Array Value) (hv : cs.extract j (j + 4) = v) : (part 23 cs j).run Try.prog w = .ok (.agg v) w := by
  simp [part, isAgg, run_underlying lay_under, hv]
theorem eq_layfield (w : World) {f : Field} {nm : String} {off : Nat} (hf : (f.name, f.type, f.offset) = (nm, 23, off)) (hn : nm ≠ "_") (d : Nat) (xs ys : Array Value) (a0 a1 a2 a3 b0 b1 b2 b3 : Int) (hx : xs.extract off (off + 4) = #[.int .i64 a0, .int .i64 a1, .int .i64 a2, .int .i64 a3]) (hy : ys.extract off (off + 4) = #[.int .i64 b0, .int .i64 b1, .int .i64 b2, .int .i64 b3]) (fs : List Field) :
    (Op.eqFields (d + 2) xs ys (f :: fs)).run Try.prog w = if Sb.sameL ⟨a0, a1, a2, a3⟩ ⟨b0, b1, b2, b3⟩ = true then (Op.eqFields (d + 2) xs ys fs).run Try.prog w else .ok false w := by
  obtain ⟨h1, h2, h3⟩ : f.name = nm ∧ f.type = 23 ∧ f.offset = off := by simpa using hf
  rw [Op.eqFields, if_pos (by rw [h1]; exact hn), h2, h3]
  simp only [Sem.run_bind, part_lay w xs off _ hx, part_lay w ys off _ hy, Result.andThen_ok, lay_eqd, Sem.run_ite, Sem.run_pure]
  cases Sb.sameL ⟨a0, a1, a2, a3⟩ ⟨b0, b1, b2, b3⟩ <;> rfl
end Go.Proofs.Ytmkilbogdenljaa
