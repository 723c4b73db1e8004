/-
  Entries and pairs compared with themselves.
-/
import Derived.Test.YtcdomlgnfbdeoaaTbPr
import Derived.Test.YtcdomlgnfbdeoaaEqWords
set_option maxRecDepth 100000
namespace Go.Proofs.Ytcdomlgnfbdeoaa
open Go.RowKit
theorem ent_fields : (Try.prog.fieldsOf 36).toList.map (fun f => (f.name, f.type, f.offset)) = [("Seq", 3, 0), ("Off", 3, 1), ("Len", 3, 2), ("Expiry", 3, 3), ("Hit", 4, 4)] := by kernel_rfl
theorem ent_stood : Try.prog.stoodInHeld 36 = false := by kernel_rfl
theorem ent_under : Try.prog.underlying 36 = some (.struct (Try.prog.fieldsOf 36)) := by kernel_rfl
theorem ent_self (d : Nat) (w : World) (a0 a1 a2 a3 : Int) (a4 : Bool) : (Op.equalIn (d + 2) 36 (.agg #[.int .i64 a0, .int .i64 a1, .int .i64 a2, .int .i64 a3, .bool a4]) (.agg #[.int .i64 a0, .int .i64 a1, .int .i64 a2, .int .i64 a3, .bool a4])).run Try.prog w = .ok true w := by
  rw [run_equalIn_struct w (d + 1) _ _ _ ent_under ent_stood]
  have hf := ent_fields
  generalize (Try.prog.fieldsOf 36).toList = fs at hf ⊢
  obtain ⟨f0, r0, rfl, e0, hf⟩ := List.map_eq_cons_iff.1 hf
  obtain ⟨f1, r1, rfl, e1, hf⟩ := List.map_eq_cons_iff.1 hf
  obtain ⟨f2, r2, rfl, e2, hf⟩ := List.map_eq_cons_iff.1 hf
  obtain ⟨f3, r3, rfl, e3, hf⟩ := List.map_eq_cons_iff.1 hf
  obtain ⟨f4, r4, rfl, e4, hf⟩ := List.map_eq_cons_iff.1 hf
  obtain rfl := List.map_eq_nil_iff.1 hf
  have hb : ∀ cs : Array Value, cs[4]? = some (.bool a4) → (part 4 cs 4).run Try.prog w = .ok (.bool a4) w := fun cs h => by
    simp [part, isAgg, run_underlying Try.underlying4, h]
  rw [eq_field w Try.underlying3 e0 (by decide) d _ _ a0 a0 rfl rfl, if_pos (beq_self_eq_true _), eq_field w Try.underlying3 e1 (by decide) d _ _ a1 a1 rfl rfl, if_pos (beq_self_eq_true _), eq_field w Try.underlying3 e2 (by decide) d _ _ a2 a2 rfl rfl, if_pos (beq_self_eq_true _), eq_field w Try.underlying3 e3 (by decide) d _ _ a3 a3 rfl rfl, if_pos (beq_self_eq_true _),
    eq_fieldG w e4 (by decide) (d + 1) _ _ (.bool a4) (.bool a4) (hb _ rfl) (hb _ rfl) (by simp [Op.equalIn, run_underlying Try.underlying4])]
  rfl
theorem pair_fields : (Try.prog.fieldsOf 38).toList.map (fun f => (f.name, f.type, f.offset)) = [("Key", 9, 0), ("Entry", 36, 1)] := by kernel_rfl
theorem pair_stood : Try.prog.stoodInHeld 38 = false := by kernel_rfl
theorem pair_under : Try.prog.underlying 38 = some (.struct (Try.prog.fieldsOf 38)) := by kernel_rfl
theorem ent_cells5 : Try.prog.cellsOf 36 = 5 := by kernel_rfl
theorem pair_self (w : World) (k : ByteArray) (a0 a1 a2 a3 : Int) (a4 : Bool) : (Op.equalIn 10000 38 (.agg #[.string k, .int .i64 a0, .int .i64 a1, .int .i64 a2, .int .i64 a3, .bool a4]) (.agg #[.string k, .int .i64 a0, .int .i64 a1, .int .i64 a2, .int .i64 a3, .bool a4])).run Try.prog w = .ok true w := by
  rw [run_equalIn_struct w 9999 _ _ _ pair_under pair_stood]
  have hf := pair_fields
  generalize (Try.prog.fieldsOf 38).toList = fs at hf ⊢
  obtain ⟨f0, r0, rfl, e0, hf⟩ := List.map_eq_cons_iff.1 hf
  obtain ⟨f1, r1, rfl, e1, hf⟩ := List.map_eq_cons_iff.1 hf
  obtain rfl := List.map_eq_nil_iff.1 hf
  have hs : ∀ cs : Array Value, cs[0]? = some (.string k) → (part 9 cs 0).run Try.prog w = .ok (.string k) w := fun cs h => by
    simp [part, isAgg, run_underlying Try.underlying9, h]
  have he : ∀ cs v : Array Value, cs.extract 1 6 = v → (part 36 cs 1).run Try.prog w = .ok (.agg v) w := fun cs v h => by
    simp [part, isAgg, run_underlying ent_under, h]
  rw [eq_fieldG w e0 (by decide) 9999 _ _ (.string k) (.string k) (hs _ rfl) (hs _ rfl) (str_self 9998 w k),
    eq_fieldG w e1 (by decide) 9999 _ _ _ _ (he _ #[.int .i64 a0, .int .i64 a1, .int .i64 a2, .int .i64 a3, .bool a4] rfl) (he _ #[.int .i64 a0, .int .i64 a1, .int .i64 a2, .int .i64 a3, .bool a4] rfl) (ent_self 9997 w a0 a1 a2 a3 a4)]
  rfl
end Go.Proofs.Ytcdomlgnfbdeoaa
