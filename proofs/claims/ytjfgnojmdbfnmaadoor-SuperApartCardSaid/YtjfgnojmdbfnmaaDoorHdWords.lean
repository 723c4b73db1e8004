/-
  Words on headers as values: six cells of a block, two headers compared.
-/
import Derived.Test.YtjfgnojmdbfnmaaDoorHdMath
import Derived.Test.YtjfgnojmdbfnmaaDoorSmall
import Derived.Test.YtjfgnojmdbfnmaaDoorFrAwake
import Derived.Laws.StructEq
namespace Go.Proofs.YtjfgnojmdbfnmaaDoor
open Go.RowKit
theorem six_cells {w : World} {g : Nat} {a b c d e f : Value} {t : TypeId} (h : w.heap[g]? = some (.cells #[a, b, c, d, e, f] t (0, 0))) :
    w.cell? ⟨g, 0, none⟩ = some a ∧ w.cell? ⟨g, 1, none⟩ = some b ∧ w.cell? ⟨g, 2, none⟩ = some c ∧ w.cell? ⟨g, 3, none⟩ = some d ∧ w.cell? ⟨g, 4, none⟩ = some e ∧ w.cell? ⟨g, 5, none⟩ = some f := by
  refine ⟨?_, ?_, ?_, ?_, ?_, ?_⟩
  · rw [cell_of_row w g 0 _ t (0, 0) h]; rfl
  · rw [cell_of_row w g 1 _ t (0, 0) h]; rfl
  · rw [cell_of_row w g 2 _ t (0, 0) h]; rfl
  · rw [cell_of_row w g 3 _ t (0, 0) h]; rfl
  · rw [cell_of_row w g 4 _ t (0, 0) h]; rfl
  · rw [cell_of_row w g 5 _ t (0, 0) h]; rfl
theorem six_frozen {w : World} {g : Nat} {a b c d e f : Value} {t : TypeId} (h : w.heap[g]? = some (.cells #[a, b, c, d, e, f] t (0, 0))) :
    w.frozen? ⟨g, 0, none⟩ = false ∧ w.frozen? ⟨g, 1, none⟩ = false ∧ w.frozen? ⟨g, 2, none⟩ = false ∧ w.frozen? ⟨g, 3, none⟩ = false ∧ w.frozen? ⟨g, 4, none⟩ = false ∧ w.frozen? ⟨g, 5, none⟩ = false :=
  ⟨frozen_of_row w g 0 _ t h, frozen_of_row w g 1 _ t h, frozen_of_row w g 2 _ t h, frozen_of_row w g 3 _ t h, frozen_of_row w g 4 _ t h, frozen_of_row w g 5 _ t h⟩
theorem stored6 {w : World} {r : Nat} {a b c d e f a' b' c' d' e' f' : Value} {t : TypeId} (h : w.heap[r]? = some (.cells #[a, b, c, d, e, f] t (0, 0))) :
    ((((((w.setCell ⟨r, 0, none⟩ a').setCell ⟨r, 1, none⟩ b').setCell ⟨r, 2, none⟩ c').setCell ⟨r, 3, none⟩ d').setCell ⟨r, 4, none⟩ e').setCell ⟨r, 5, none⟩ f').heap[r]? = some (.cells #[a', b', c', d', e', f'] t (0, 0)) := by
  simp [World.setCell, Array.getElem?_modify, h]
theorem stored6_grown (w : World) (r : Nat) (a' b' c' d' e' f' : Value) : w.grownBy ((((((w.setCell ⟨r, 0, none⟩ a').setCell ⟨r, 1, none⟩ b').setCell ⟨r, 2, none⟩ c').setCell ⟨r, 3, none⟩ d').setCell ⟨r, 4, none⟩ e').setCell ⟨r, 5, none⟩ f') (some r) :=
  grown_trans' (grown_trans' (grown_trans' (grown_trans' (grown_trans' (grown_set _ _ _ _) (grown_set _ _ _ _)) (grown_set _ _ _ _)) (grown_set _ _ _ _)) (grown_set _ _ _ _)) (grown_set _ _ _ _)
theorem sd_new (w : World) (cs : Array Value) (t : TypeId) : Sd w w.heap.size (.cells cs t (0, 0)) (w.alloc (.cells cs t)) := ⟨heap_alloc_new _ _, (Below.refl _ w).alloc (Nat.le_refl _) _⟩
/-- A header as a value. -/
def Hd.val (h : Hd.H) : Value := .agg #[.int .i64 h.ver, .int .i64 h.slot, .int .i64 h.lay, .int .i64 h.seq, .int .i64 h.tail, .int .i64 h.now]
/-- Are they the same? -/
def Hd.same (a b : Hd.H) : Bool := a.ver == b.ver && (a.slot == b.slot && (a.lay == b.lay && (a.seq == b.seq && (a.tail == b.tail && a.now == b.now))))
theorem Hd.same_iff (a b : Hd.H) : Hd.same a b = true ↔ a = b := by
  obtain ⟨a0, a1, a2, a3, a4, a5⟩ := a
  obtain ⟨b0, b1, b2, b3, b4, b5⟩ := b
  unfold Hd.same
  simp only [Bool.and_eq_true, beq_iff_eq, Hd.H.mk.injEq]
theorem Hd.same_self (a : Hd.H) : Hd.same a a = true := (Hd.same_iff a a).2 rfl
theorem part_int {P : Program} (w : World) {e : TypeId} {k : IntKind} (he : P.underlying e = some (.int k)) (cs : Array Value) (j : Nat) (v : Value) (hv : cs[j]? = some v) : (part e cs j).run P w = .ok v w := by
  simp [part, isAgg, run_underlying he, hv]
/-- One field of numbers, compared. -/
theorem eq_field {P : Program} (w : World) {e : TypeId} {k : IntKind} (he : P.underlying e = some (.int k)) {f : Field} {nm : String} {off : Nat} (hf : (f.name, f.type, f.offset) = (nm, e, off)) (hn : nm ≠ "_") (d : Nat) (xs ys : Array Value) (x y : Int) (hx : xs[off]? = some (.int k x)) (hy : ys[off]? = some (.int k y)) (fs : List Field) :
    (Op.eqFields (d + 1) xs ys (f :: fs)).run P w = if (x == y) = true then (Op.eqFields (d + 1) xs ys fs).run P w else .ok false w := by
  obtain ⟨h1, h2, h3⟩ : f.name = nm ∧ f.type = e ∧ f.offset = off := by simpa using hf
  have e1 : (Op.equalIn (d + 1) e (.int k x) (.int k y)).run P w = .ok (x == y) w := by simp [Op.equalIn, run_underlying he]
  rw [Op.eqFields, if_pos (by rw [h1]; exact hn), h2, h3]
  simp only [Sem.run_bind, part_int w he xs off _ hx, part_int w he ys off _ hy, Result.andThen_ok, e1, Sem.run_ite, Sem.run_pure]
  cases (x == y) <;> rfl
theorem hdr_fields : (Tryd.prog.fieldsOf 23).toList.map (fun f => (f.name, f.type, f.offset)) = [("Version", 3, 0), ("Slot", 3, 1), ("Layout", 3, 2), ("Seq", 3, 3), ("Tail", 3, 4), ("Now", 3, 5)] := by kernel_rfl
theorem hdr_stood : Tryd.prog.stoodInHeld 23 = false := by kernel_rfl
theorem hdr_under : Tryd.prog.underlying 23 = some (.struct (Tryd.prog.fieldsOf 23)) := by kernel_rfl
theorem hdr_eq (w : World) (a b : Hd.H) : (Op.equalIn 10000 23 (Hd.val a) (Hd.val b)).run Tryd.prog w = .ok (Hd.same a b) w := by
  unfold Hd.val
  rw [run_equalIn_struct w 9999 _ _ _ hdr_under hdr_stood]
  have hf := hdr_fields
  generalize (Tryd.prog.fieldsOf 23).toList = fs at hf ⊢
  obtain ⟨f0, r0, rfl, e0, hf⟩ := List.map_eq_cons_iff.1 hf
  obtain ⟨f1, r1, rfl, e1, hf⟩ := List.map_eq_cons_iff.1 hf
  obtain ⟨f2, r2, rfl, e2, hf⟩ := List.map_eq_cons_iff.1 hf
  obtain ⟨f3, r3, rfl, e3, hf⟩ := List.map_eq_cons_iff.1 hf
  obtain ⟨f4, r4, rfl, e4, hf⟩ := List.map_eq_cons_iff.1 hf
  obtain ⟨f5, r5, rfl, e5, hf⟩ := List.map_eq_cons_iff.1 hf
  obtain rfl := List.map_eq_nil_iff.1 hf
  rw [eq_field w Tryd.underlying3 e0 (by decide) 9998 _ _ a.ver b.ver rfl rfl, eq_field w Tryd.underlying3 e1 (by decide) 9998 _ _ a.slot b.slot rfl rfl, eq_field w Tryd.underlying3 e2 (by decide) 9998 _ _ a.lay b.lay rfl rfl, eq_field w Tryd.underlying3 e3 (by decide) 9998 _ _ a.seq b.seq rfl rfl, eq_field w Tryd.underlying3 e4 (by decide) 9998 _ _ a.tail b.tail rfl rfl, eq_field w Tryd.underlying3 e5 (by decide) 9998 _ _ a.now b.now rfl rfl]
  unfold Hd.same Op.eqFields
  generalize (a.ver == b.ver) = q0
  generalize (a.slot == b.slot) = q1
  generalize (a.lay == b.lay) = q2
  generalize (a.seq == b.seq) = q3
  generalize (a.tail == b.tail) = q4
  generalize (a.now == b.now) = q5
  cases q0 <;> cases q1 <;> cases q2 <;> cases q3 <;> cases q4 <;> cases q5 <;> rfl
end Go.Proofs.YtjfgnojmdbfnmaaDoor
