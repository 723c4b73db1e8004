/-
  Two regions compared.
-/
import Derived.Test.YtmkilbogdenljaaLayEq
import Derived.Test.YtmkilbogdenljaaGmTaken
set_option maxRecDepth 100000
namespace Go.Proofs.Ytmkilbogdenljaa
open Go.RowKit
theorem hdr_eqd (d : Nat) (w : World) (a b : Hd.H) : (Op.equalIn (d + 2) 38 (Hd.val a) (Hd.val b)).run Try.prog w = .ok (Hd.same a b) w := by
  unfold Hd.val
  rw [run_equalIn_struct w (d + 1) _ _ _ hdr_under hdr_stood]
  have hf := hdr_fields
  generalize (Try.prog.fieldsOf 38).toList = fs at hf ⊢
  obtain ⟨f0, r0, rfl, e0, hf⟩ := List.map_eq_cons_iff.1 hf
  obtain ⟨f1, r1, rfl, e1, hf⟩ := List.map_eq_cons_iff.1 hf
  obtain ⟨f2, r2, rfl, e2, hf⟩ := List.map_eq_cons_iff.1 hf
  obtain ⟨f3, r3, rfl, e3, hf⟩ := List.map_eq_cons_iff.1 hf
  obtain ⟨f4, r4, rfl, e4, hf⟩ := List.map_eq_cons_iff.1 hf
  obtain ⟨f5, r5, rfl, e5, hf⟩ := List.map_eq_cons_iff.1 hf
  obtain rfl := List.map_eq_nil_iff.1 hf
  rw [eq_field w Try.underlying3 e0 (by decide) d _ _ a.ver b.ver rfl rfl, eq_field w Try.underlying3 e1 (by decide) d _ _ a.slot b.slot rfl rfl, eq_field w Try.underlying3 e2 (by decide) d _ _ a.lay b.lay rfl rfl, eq_field w Try.underlying3 e3 (by decide) d _ _ a.seq b.seq rfl rfl, eq_field w Try.underlying3 e4 (by decide) d _ _ a.tail b.tail rfl rfl, eq_field w Try.underlying3 e5 (by decide) d _ _ a.now b.now rfl rfl]
  unfold Hd.same Op.eqFields
  generalize (a.ver == b.ver) = q0
  generalize (a.slot == b.slot) = q1
  generalize (a.lay == b.lay) = q2
  generalize (a.seq == b.seq) = q3
  generalize (a.tail == b.tail) = q4
  generalize (a.now == b.now) = q5
  cases q0 <;> cases q1 <;> cases q2 <;> cases q3 <;> cases q4 <;> cases q5 <;> rfl
theorem part_hdr (w : World) (cs : Array Value) (j : Nat) (v : Array Value) (hv : cs.extract j (j + 6) = v) : (part 38 cs j).run Try.prog w = .ok (.agg v) w := by
  simp [part, isAgg, run_underlying hdr_under, hv]
theorem eq_hdrfield (w : World) {f : Field} {nm : String} {off : Nat} (hf : (f.name, f.type, f.offset) = (nm, 38, off)) (hn : nm ≠ "_") (d : Nat) (xs ys : Array Value) (a b : Hd.H) (va vb : Array Value) (ea : Hd.val a = .agg va) (eb : Hd.val b = .agg vb) (hx : xs.extract off (off + 6) = va) (hy : ys.extract off (off + 6) = vb) (fs : List Field) :
    (Op.eqFields (d + 2) xs ys (f :: fs)).run Try.prog w = if Hd.same a b = true then (Op.eqFields (d + 2) xs ys fs).run Try.prog w else .ok false w := by
  obtain ⟨h1, h2, h3⟩ : f.name = nm ∧ f.type = 38 ∧ f.offset = off := by simpa using hf
  have hq := hdr_eqd d w a b
  rw [ea, eb] at hq
  rw [Op.eqFields, if_pos (by rw [h1]; exact hn), h2, h3]
  simp only [Sem.run_bind, part_hdr w xs off _ hx, part_hdr w ys off _ hy, Result.andThen_ok, hq, Sem.run_ite, Sem.run_pure]
  cases Hd.same a b <;> rfl
theorem reg_fields : (Try.prog.fieldsOf 40).toList.map (fun f => (f.name, f.type, f.offset)) = [("Header", 38, 0), ("Layout", 23, 6)] := by kernel_rfl
theorem reg_stood : Try.prog.stoodInHeld 40 = false := by kernel_rfl
theorem reg_under : Try.prog.underlying 40 = some (.struct (Try.prog.fieldsOf 40)) := by kernel_rfl
/-- A region's value is itself. -/
theorem reg_self (w : World) (r : Gm.R) : (Op.equalIn 10000 40 (.agg #[.int .i64 r.ver, .int .i64 r.slot, .int .i64 r.lay, .int .i64 r.seq, .int .i64 r.tail, .int .i64 r.now, .int .i64 r.l.id, .int .i64 r.l.ver, .int .i64 r.l.rs, .int .i64 r.l.reg]) (.agg #[.int .i64 r.ver, .int .i64 r.slot, .int .i64 r.lay, .int .i64 r.seq, .int .i64 r.tail, .int .i64 r.now, .int .i64 r.l.id, .int .i64 r.l.ver, .int .i64 r.l.rs, .int .i64 r.l.reg])).run Try.prog w = .ok true w := by
  rw [run_equalIn_struct w 9999 _ _ _ reg_under reg_stood]
  have hf := reg_fields
  generalize (Try.prog.fieldsOf 40).toList = fs at hf ⊢
  obtain ⟨f0, r0, rfl, e0, hf⟩ := List.map_eq_cons_iff.1 hf
  obtain ⟨f1, r1, rfl, e1, hf⟩ := List.map_eq_cons_iff.1 hf
  obtain rfl := List.map_eq_nil_iff.1 hf
  have hh : Hd.same ⟨r.ver, r.slot, r.lay, r.seq, r.tail, r.now⟩ ⟨r.ver, r.slot, r.lay, r.seq, r.tail, r.now⟩ = true := by unfold Hd.same; simp
  have hl : Sb.sameL ⟨r.l.id, r.l.ver, r.l.rs, r.l.reg⟩ ⟨r.l.id, r.l.ver, r.l.rs, r.l.reg⟩ = true := by unfold Sb.sameL; simp
  rw [eq_hdrfield w e0 (by decide) 9997 _ _ ⟨r.ver, r.slot, r.lay, r.seq, r.tail, r.now⟩ ⟨r.ver, r.slot, r.lay, r.seq, r.tail, r.now⟩ _ _ rfl rfl rfl rfl, if_pos hh, eq_layfield w e1 (by decide) 9997 _ _ r.l.id r.l.ver r.l.rs r.l.reg r.l.id r.l.ver r.l.rs r.l.reg rfl rfl, if_pos hl]
  rfl
end Go.Proofs.Ytmkilbogdenljaa
