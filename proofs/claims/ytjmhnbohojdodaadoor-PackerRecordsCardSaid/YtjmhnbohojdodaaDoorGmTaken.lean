/-
  Regions in slices; the walks of geometry.isTaken's closure, of slices.IndexFunc and slices.ContainsFunc at regions, and of isTaken.
-/
import Derived.Test.YtjmhnbohojdodaaDoorGmOver
import Derived.Test.YtjmhnbohojdodaaDoorArr
set_option maxRecDepth 100000
namespace Go.Proofs.YtjmhnbohojdodaaDoor
open Go.RowKit
def rcs (r : Gm.R) : List Value := [.int .i64 r.ver, .int .i64 r.slot, .int .i64 r.lay, .int .i64 r.seq, .int .i64 r.tail, .int .i64 r.now, .int .i64 r.l.id, .int .i64 r.l.ver, .int .i64 r.l.rs, .int .i64 r.l.reg]
/-- Regions. -/
def regS : Shape Gm.R := ⟨rcs, Gm.R0, 10, fun _ => rfl, by decide, fun r u hu => by
  simp only [rcs, List.mem_cons, List.not_mem_nil, or_false] at hu
  rcases hu with rfl | rfl | rfl | rfl | rfl | rfl | rfl | rfl | rfl | rfl <;> rfl⟩
/-- The cells of one region of a slice, as a load spells them. -/
theorem regs_at {w : World} {lo B : Nat} {ad : Addr} {l : List Gm.R} (h : Arr regS w lo B (some ad) l) (k : Nat) (hk : k < l.length) (r : Gm.R) (e : l.getD k Gm.R0 = r) :
    w.cell? (ad.add (k * 10)) = some (.int .i64 r.ver) ∧ w.cell? ⟨(ad.add (k * 10)).block, (ad.add (k * 10)).off + 1, none⟩ = some (.int .i64 r.slot) ∧ w.cell? ⟨(ad.add (k * 10)).block, (ad.add (k * 10)).off + 2, none⟩ = some (.int .i64 r.lay) ∧ w.cell? ⟨(ad.add (k * 10)).block, (ad.add (k * 10)).off + 3, none⟩ = some (.int .i64 r.seq) ∧
    w.cell? ⟨(ad.add (k * 10)).block, (ad.add (k * 10)).off + 4, none⟩ = some (.int .i64 r.tail) ∧ w.cell? ⟨(ad.add (k * 10)).block, (ad.add (k * 10)).off + 5, none⟩ = some (.int .i64 r.now) ∧ w.cell? ⟨(ad.add (k * 10)).block, (ad.add (k * 10)).off + 6, none⟩ = some (.int .i64 r.l.id) ∧ w.cell? ⟨(ad.add (k * 10)).block, (ad.add (k * 10)).off + 7, none⟩ = some (.int .i64 r.l.ver) ∧
    w.cell? ⟨(ad.add (k * 10)).block, (ad.add (k * 10)).off + 8, none⟩ = some (.int .i64 r.l.rs) ∧ w.cell? ⟨(ad.add (k * 10)).block, (ad.add (k * 10)).off + 9, none⟩ = some (.int .i64 r.l.reg) := by
  have h4 : ∀ j v, (rcs r)[j]? = some v → w.cell? (ad.add (k * 10 + j)) = some v := fun j v hv => h.cell k hk j v (by rw [show l.getD k regS.z = r from e]; exact hv)
  have g : ∀ i, 0 < i → ∀ v, (rcs r)[i]? = some v → w.cell? ⟨(ad.add (k * 10)).block, (ad.add (k * 10)).off + i, none⟩ = some v := fun i hi v hv => by
    have := h4 i v hv
    rwa [at_field _ _ _ hi] at this
  exact ⟨h4 0 _ rfl, g 1 (by decide) _ rfl, g 2 (by decide) _ rfl, g 3 (by decide) _ rfl, g 4 (by decide) _ rfl, g 5 (by decide) _ rfl, g 6 (by decide) _ rfl, g 7 (by decide) _ rfl, g 8 (by decide) _ rfl, g 9 (by decide) _ rfl⟩
theorem ten_cells {w : World} {g : Nat} {a b c d e f h i j k : Value} {t : TypeId} (hk : w.heap[g]? = some (.cells #[a, b, c, d, e, f, h, i, j, k] t (0, 0))) :
    w.cell? ⟨g, 0, none⟩ = some a ∧ w.cell? ⟨g, 1, none⟩ = some b ∧ w.cell? ⟨g, 2, none⟩ = some c ∧ w.cell? ⟨g, 3, none⟩ = some d ∧ w.cell? ⟨g, 4, none⟩ = some e ∧ w.cell? ⟨g, 5, none⟩ = some f ∧ w.cell? ⟨g, 6, none⟩ = some h ∧ w.cell? ⟨g, 7, none⟩ = some i ∧ w.cell? ⟨g, 8, none⟩ = some j ∧ w.cell? ⟨g, 9, none⟩ = some k := by
  refine ⟨?_, ?_, ?_, ?_, ?_, ?_, ?_, ?_, ?_, ?_⟩ <;> (rw [cell_of_row _ _ _ _ _ _ hk]; rfl)
theorem one_cell {w : World} {g : Nat} {a : Value} {t : TypeId} (hk : w.heap[g]? = some (.cells #[a] t (0, 0))) : w.cell? ⟨g, 0, none⟩ = some a := by rw [cell_of_row _ _ _ _ _ _ hk]; rfl
theorem block_next {w w1 : World} {C g : Nat} {o : Obj} (h : w.heap[g]? = some o) (k : Below C w w1) (hg : g < C) : w1.heap[g]? = some o := (k.block g hg).trans h
theorem taken_all (l : Sb.L) (s : Int) (live : List Gm.R) (n : Nat) (h : live.length = n) : Gm.taken l s (live.take n) = Gm.taken l s live := by rw [List.take_of_length_le (by omega)]
theorem taken_hit (l : Sb.L) (s : Int) (live : List Gm.R) (k : Nat) (hk : k < live.length) (r : Gm.R) (e : live.getD k Gm.R0 = r) (h : decide (Gm.over l s r.l r.slot) = true) : Gm.taken l s live = true := by
  subst e
  unfold Gm.taken
  rw [List.any_eq_true]
  refine ⟨live.getD k Gm.R0, ?_, h⟩
  rw [List.getD_eq_getElem?_getD, List.getElem?_eq_getElem hk]
  exact List.getElem_mem hk
end Go.Proofs.YtjmhnbohojdodaaDoor
