/-
  Entries and pairs compared with themselves.
-/
import Derived.Test.YtflnjippknpflaaTbList
import Derived.ChangeKeysEq
set_option maxRecDepth 100000
namespace Go.Proofs.Ytflnjippknpflaa
open Go.RowKit
theorem eq_fieldG {P : Program} (w : World) {e : TypeId} {f : Field} {nm : String} {off : Nat} (hf : (f.name, f.type, f.offset) = (nm, e, off)) (hn : nm ≠ "_") (d : Nat) (xs ys : Array Value) (a b : Value) (hx : (part e xs off).run P w = .ok a w) (hy : (part e ys off).run P w = .ok b w) (he : (Op.equalIn d e a b).run P w = .ok true w) (fs : List Field) :
    (Op.eqFields d xs ys (f :: fs)).run P w = (Op.eqFields d xs ys fs).run P w := by
  obtain ⟨h1, h2, h3⟩ : f.name = nm ∧ f.type = e ∧ f.offset = off := by simpa using hf
  rw [Op.eqFields, if_pos (by rw [h1]; exact hn), h2, h3]
  simp only [Sem.run_bind, hx, hy, Result.andThen_ok, he, Sem.run_ite, Sem.run_pure]
  rfl
theorem ent_fields : (Try.prog.fieldsOf 30).toList.map (fun f => (f.name, f.type, f.offset)) = [("Seq", 3, 0), ("Off", 3, 1), ("Len", 3, 2), ("Expiry", 3, 3), ("Hit", 4, 4)] := by kernel_rfl
theorem ent_stood : Try.prog.stoodInHeld 30 = false := by kernel_rfl
theorem ent_under : Try.prog.underlying 30 = some (.struct (Try.prog.fieldsOf 30)) := by kernel_rfl
theorem ent_self (d : Nat) (w : World) (a0 a1 a2 a3 : Int) (a4 : Bool) : (Op.equalIn (d + 2) 30 (.agg #[.int .i64 a0, .int .i64 a1, .int .i64 a2, .int .i64 a3, .bool a4]) (.agg #[.int .i64 a0, .int .i64 a1, .int .i64 a2, .int .i64 a3, .bool a4])).run Try.prog w = .ok true w := by
  rw [run_equalIn_struct w (d + 1) _ _ _ ent_under ent_stood]
  have hf := ent_fields
  generalize (Try.prog.fieldsOf 30).toList = fs at hf ⊢
  obtain ⟨f0, r0, rfl, e0, hf⟩ := List.map_eq_cons_iff.1 hf
  obtain ⟨f1, r1, rfl, e1, hf⟩ := List.map_eq_cons_iff.1 hf
  obtain ⟨f2, r2, rfl, e2, hf⟩ := List.map_eq_cons_iff.1 hf
  obtain ⟨f3, r3, rfl, e3, hf⟩ := List.map_eq_cons_iff.1 hf
  obtain ⟨f4, r4, rfl, e4, hf⟩ := List.map_eq_cons_iff.1 hf
  obtain rfl := List.map_eq_nil_iff.1 hf
  have hb : ∀ cs : Array Value, cs[4]? = some (.bool a4) → (part 4 cs 4).run Try.prog w = .ok (.bool a4) w := fun cs h => by
    simp [part, isAgg, run_underlying Try.underlying4, h]
  rw [eq_field w Try.underlying3 e0 (by decide) d _ _ a0 a0 rfl rfl, if_pos (beq_self_eq_true _), eq_field w Try.underlying3 e1 (by decide) d _ _ a1 a1 rfl rfl, if_pos (beq_self_eq_true _), eq_field w Try.underlying3 e2 (by decide) d _ _ a2 a2 rfl rfl, if_pos (beq_self_eq_true _), eq_field w Try.underlying3 e3 (by decide) d _ _ a3 a3 rfl rfl, if_pos (beq_self_eq_true _),
    eq_fieldG w e4 (by decide) (d + 1) _ _ (.bool a4) (.bool a4) (hb _ rfl) (hb _ rfl) (by simp [Op.equalIn, run_underlying Try.underlying4])]
  rfl
theorem ba_self (a : ByteArray) : (a == a) = true := by
  show (a.data == a.data) = true
  exact beq_self_eq_true _
theorem str_self (d : Nat) (w : World) (k : ByteArray) : (Op.equalIn (d + 1) 9 (.string k) (.string k)).run Try.prog w = .ok true w := by
  simp [Op.equalIn, run_underlying Try.underlying9, ba_self]
theorem pair_fields : (Try.prog.fieldsOf 47).toList.map (fun f => (f.name, f.type, f.offset)) = [("Key", 9, 0), ("Entry", 30, 1)] := by kernel_rfl
theorem pair_stood : Try.prog.stoodInHeld 47 = false := by kernel_rfl
theorem pair_under : Try.prog.underlying 47 = some (.struct (Try.prog.fieldsOf 47)) := by kernel_rfl
theorem ent_cells5 : Try.prog.cellsOf 30 = 5 := by kernel_rfl
theorem pair_self (w : World) (k : ByteArray) (a0 a1 a2 a3 : Int) (a4 : Bool) : (Op.equalIn 10000 47 (.agg #[.string k, .int .i64 a0, .int .i64 a1, .int .i64 a2, .int .i64 a3, .bool a4]) (.agg #[.string k, .int .i64 a0, .int .i64 a1, .int .i64 a2, .int .i64 a3, .bool a4])).run Try.prog w = .ok true w := by
  rw [run_equalIn_struct w 9999 _ _ _ pair_under pair_stood]
  have hf := pair_fields
  generalize (Try.prog.fieldsOf 47).toList = fs at hf ⊢
  obtain ⟨f0, r0, rfl, e0, hf⟩ := List.map_eq_cons_iff.1 hf
  obtain ⟨f1, r1, rfl, e1, hf⟩ := List.map_eq_cons_iff.1 hf
  obtain rfl := List.map_eq_nil_iff.1 hf
  have hs : ∀ cs : Array Value, cs[0]? = some (.string k) → (part 9 cs 0).run Try.prog w = .ok (.string k) w := fun cs h => by
    simp [part, isAgg, run_underlying Try.underlying9, h]
  have he : ∀ cs v : Array Value, cs.extract 1 6 = v → (part 30 cs 1).run Try.prog w = .ok (.agg v) w := fun cs v h => by
    simp [part, isAgg, run_underlying ent_under, h]
  rw [eq_fieldG w e0 (by decide) 9999 _ _ (.string k) (.string k) (hs _ rfl) (hs _ rfl) (str_self 9998 w k),
    eq_fieldG w e1 (by decide) 9999 _ _ _ _ (he _ #[.int .i64 a0, .int .i64 a1, .int .i64 a2, .int .i64 a3, .bool a4] rfl) (he _ #[.int .i64 a0, .int .i64 a1, .int .i64 a2, .int .i64 a3, .bool a4] rfl) (ent_self 9997 w a0 a1 a2 a3 a4)]
  rfl
end Go.Proofs.Ytflnjippknpflaa
