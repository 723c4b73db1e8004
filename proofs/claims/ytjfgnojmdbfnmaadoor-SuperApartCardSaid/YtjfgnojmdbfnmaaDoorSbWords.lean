/-
  Words on layouts and superblocks as values: their cells, foreign layouts read through a slice, two layouts compared.
-/
import Derived.Test.YtjfgnojmdbfnmaaDoorSbMath
import Derived.Test.YtjfgnojmdbfnmaaDoorHdWords
namespace Go.Proofs.YtjfgnojmdbfnmaaDoor
open Go.RowKit
namespace Sb
def lcells (l : L) : List Value := [.int .i64 l.id, .int .i64 l.ver, .int .i64 l.rs, .int .i64 l.reg]
/-- A layout as a value. -/
def lval (l : L) : Value := .agg #[.int .i64 l.id, .int .i64 l.ver, .int .i64 l.rs, .int .i64 l.reg]
/-- A superblock as a value, its foreign layouts a slice. -/
def cells (s : S) (A : Option Addr) (n c : Nat) : Array Value := #[.int .i64 s.gen, .int .i64 s.phase, .int .i64 s.mig, .int .i64 s.tail, .int .i64 s.now, .int .i64 s.t.id, .int .i64 s.t.ver, .int .i64 s.t.rs, .int .i64 s.t.reg, .int .i64 s.h.id, .int .i64 s.h.ver, .int .i64 s.h.rs, .int .i64 s.h.reg, .slice A n c]
def val (s : S) (A : Option Addr) (n c : Nat) : Value := .agg (cells s A n c)
end Sb
theorem cells14 {w : World} {g : Nat} {a0 a1 a2 a3 a4 a5 a6 a7 a8 a9 a10 a11 a12 a13 : Value} {t : TypeId} (h : w.heap[g]? = some (.cells #[a0, a1, a2, a3, a4, a5, a6, a7, a8, a9, a10, a11, a12, a13] t (0, 0))) :
    w.cell? ⟨g, 0, none⟩ = some a0 ∧ w.cell? ⟨g, 1, none⟩ = some a1 ∧ w.cell? ⟨g, 2, none⟩ = some a2 ∧ w.cell? ⟨g, 3, none⟩ = some a3 ∧ w.cell? ⟨g, 4, none⟩ = some a4 ∧ w.cell? ⟨g, 5, none⟩ = some a5 ∧ w.cell? ⟨g, 6, none⟩ = some a6 ∧ w.cell? ⟨g, 7, none⟩ = some a7 ∧ w.cell? ⟨g, 8, none⟩ = some a8 ∧ w.cell? ⟨g, 9, none⟩ = some a9 ∧ w.cell? ⟨g, 10, none⟩ = some a10 ∧ w.cell? ⟨g, 11, none⟩ = some a11 ∧ w.cell? ⟨g, 12, none⟩ = some a12 ∧ w.cell? ⟨g, 13, none⟩ = some a13 := by
  refine ⟨?_, ?_, ?_, ?_, ?_, ?_, ?_, ?_, ?_, ?_, ?_, ?_, ?_, ?_⟩
  all_goals (rw [cell_of_row w g _ _ t (0, 0) h]; rfl)
theorem frozen_at {w : World} {g : Nat} {cs : Array Value} {t : TypeId} (h : w.heap[g]? = some (.cells cs t (0, 0))) (j : Nat) : w.frozen? ⟨g, j, none⟩ = false := frozen_of_row w g j _ t h
/-- Layouts read through a slice, below block B. -/
def Ls (w : World) (B : Nat) (A : Option Addr) (f : List Sb.L) : Prop := ∀ k, k < f.length → ∃ ad, A = some ad ∧ ad.block < B ∧ w.cell? (ad.add (k * 4)) = some (.int .i64 (f.getD k Sb.L0).id) ∧ w.cell? (ad.add (k * 4 + 1)) = some (.int .i64 (f.getD k Sb.L0).ver) ∧ w.cell? (ad.add (k * 4 + 2)) = some (.int .i64 (f.getD k Sb.L0).rs) ∧ w.cell? (ad.add (k * 4 + 3)) = some (.int .i64 (f.getD k Sb.L0).reg)
theorem Ls.below {B C : Nat} {w w' : World} {A : Option Addr} {f : List Sb.L} (h : Ls w B A f) (hb : Below C w w') (hB : B ≤ C) : Ls w' B A f := fun k hk => by
  obtain ⟨ad, h1, h2, h3, h4, h5, h6⟩ := h k hk
  exact ⟨ad, h1, h2, (hb.cell (by rw [add_block]; omega)).trans h3, (hb.cell (by rw [add_block]; omega)).trans h4, (hb.cell (by rw [add_block]; omega)).trans h5, (hb.cell (by rw [add_block]; omega)).trans h6⟩
theorem Ls.heap {B : Nat} {w w' : World} {A : Option Addr} {f : List Sb.L} (h : Ls w B A f) (e : w'.heap = w.heap) : Ls w' B A f := fun k hk => by
  obtain ⟨ad, h1, h2, h3, h4, h5, h6⟩ := h k hk
  have q : ∀ x, w'.cell? x = w.cell? x := fun x => World.cell?_of_block (by rw [e])
  exact ⟨ad, h1, h2, (q _).trans h3, (q _).trans h4, (q _).trans h5, (q _).trans h6⟩
theorem Ls.more {B C : Nat} {w : World} {A : Option Addr} {f : List Sb.L} (h : Ls w B A f) (hB : B ≤ C) : Ls w C A f := fun k hk => by
  obtain ⟨ad, h1, h2, h3⟩ := h k hk
  exact ⟨ad, h1, by omega, h3⟩
theorem Ls.nil {B : Nat} {w : World} {A : Option Addr} : Ls w B A [] := fun k hk => absurd hk (by simp)
/-- Layouts that are short enough to be read whole: as many as the slice has. -/
def SbAt (w : World) (B : Nat) (s : Sb.S) (A : Option Addr) (n c : Nat) : Prop := SlIs A n c ∧ s.f.length = n ∧ Ls w B A s.f
theorem SbAt.below {B C : Nat} {w w' : World} {s : Sb.S} {A : Option Addr} {n c : Nat} (h : SbAt w B s A n c) (hb : Below C w w') (hB : B ≤ C) : SbAt w' B s A n c := ⟨h.1, h.2.1, h.2.2.below hb hB⟩
theorem SbAt.more {B C : Nat} {w : World} {s : Sb.S} {A : Option Addr} {n c : Nat} (h : SbAt w B s A n c) (hB : B ≤ C) : SbAt w C s A n c := ⟨h.1, h.2.1, h.2.2.more hB⟩
theorem lay_fields : (Tryd.prog.fieldsOf 41).toList.map (fun f => (f.name, f.type, f.offset)) = [("ID", 3, 0), ("Version", 3, 1), ("RegionSectors", 3, 2), ("Regions", 3, 3)] := by kernel_rfl
theorem lay_stood : Tryd.prog.stoodInHeld 41 = false := by kernel_rfl
theorem lay_under : Tryd.prog.underlying 41 = some (.struct (Tryd.prog.fieldsOf 41)) := by kernel_rfl
theorem lay_eq (w : World) (a0 a1 a2 a3 b0 b1 b2 b3 : Int) : (Op.equalIn 10000 41 (.agg #[.int .i64 a0, .int .i64 a1, .int .i64 a2, .int .i64 a3]) (.agg #[.int .i64 b0, .int .i64 b1, .int .i64 b2, .int .i64 b3])).run Tryd.prog w = .ok (Sb.sameL ⟨a0, a1, a2, a3⟩ ⟨b0, b1, b2, b3⟩) w := by
  rw [run_equalIn_struct w 9999 _ _ _ lay_under lay_stood]
  have hf := lay_fields
  generalize (Tryd.prog.fieldsOf 41).toList = fs at hf ⊢
  obtain ⟨f0, r0, rfl, e0, hf⟩ := List.map_eq_cons_iff.1 hf
  obtain ⟨f1, r1, rfl, e1, hf⟩ := List.map_eq_cons_iff.1 hf
  obtain ⟨f2, r2, rfl, e2, hf⟩ := List.map_eq_cons_iff.1 hf
  obtain ⟨f3, r3, rfl, e3, hf⟩ := List.map_eq_cons_iff.1 hf
  obtain rfl := List.map_eq_nil_iff.1 hf
  rw [eq_field w Tryd.underlying3 e0 (by decide) 9998 _ _ a0 b0 rfl rfl, eq_field w Tryd.underlying3 e1 (by decide) 9998 _ _ a1 b1 rfl rfl, eq_field w Tryd.underlying3 e2 (by decide) 9998 _ _ a2 b2 rfl rfl, eq_field w Tryd.underlying3 e3 (by decide) 9998 _ _ a3 b3 rfl rfl]
  unfold Sb.sameL Op.eqFields
  simp only
  generalize (a0 == b0) = q0
  generalize (a1 == b1) = q1
  generalize (a2 == b2) = q2
  generalize (a3 == b3) = q3
  cases q0 <;> cases q1 <;> cases q2 <;> cases q3 <;> rfl
end Go.Proofs.YtjfgnojmdbfnmaaDoor
