/-
  The walk of superblock.parse.
-/
import Derived.Test.YtcjnhemlkahgoaaDoorSbOne
import Derived.Deep.DeepCutAuto
import Derived.Deep.CutBlock
namespace Go.Proofs.YtcjnhemlkahgoaaDoor
open Go.RowKit
/-- While a superblock is read, and a block of its own that holds cs. -/
def Pv (w : World) (lo g gi : Nat) (l : List Nat) (gs : Nat) (cs : Array Value) (W : World) : Prop := Ps w lo g gi false l W ∧ W.heap[gs]? = some (.cells cs 27 (0, 0)) ∧ gi < gs
section
variable {w W W' : World} {lo g gi gs : Nat} {l l' : List Nat} {cs : Array Value}
theorem Pv.next (h : Pv w lo g gi l gs cs W) (hp : Ps w lo g gi false l' W') (hg : W.grownBy W' (some g)) : Pv w lo g gi l' gs cs W' :=
  ⟨hp, (hg.block gs (Array.getElem?_eq_some_iff.1 h.2.1).1 (fun e => by injection e with e; have := h.2.2; have := h.1.2.2.2.2; omega)).trans h.2.1, h.2.2⟩
theorem Ps.drew {bad : Bool} (h : Ps w lo g gi bad l W) : Ps w lo g gi bad l W.drew := ⟨h.1, h.2.1, h.2.2.1.drew, h.2.2.2⟩
theorem Pv.ps (h : Pv w lo g gi l gs cs W) : Ps w lo g gi false l W := h.1
theorem Pv.cell (h : Pv w lo g gi l gs cs W) : W.cell? ⟨gi, 0, none⟩ = some (.pointer (some ⟨g, 0, none⟩)) := h.1.cell
theorem Pv.row (h : Pv w lo g gi l gs cs W) : W.heap[gs]? = some (.cells cs 27 (0, 0)) := h.2.1
theorem Pv.drew (h : Pv w lo g gi l gs cs W) : Pv w lo g gi l gs cs W.drew := ⟨h.1.drew, h.2.1, h.2.2⟩
theorem Ps.made (h : Ps w lo g gi false l W) (cs : Array Value) : Pv w lo g gi l W.heap.size cs (W.alloc (.cells cs 27)) :=
  ⟨h.alloc _, heap_alloc_new _ _, (Array.getElem?_eq_some_iff.1 h.2.1).1⟩
theorem Pv.alloc (h : Pv w lo g gi l gs cs W) (o : Obj) : Pv w lo g gi l gs cs (W.alloc o) :=
  ⟨h.1.alloc o, (heap_alloc_old _ _ (Array.getElem?_eq_some_iff.1 h.2.1).1).trans h.2.1, h.2.2⟩
end
theorem frozen14 {w : World} {g : Nat} {cs : Array Value} {t : TypeId} (h : w.heap[g]? = some (.cells cs t (0, 0))) : w.frozen? ⟨g, 0, none⟩ = false ∧ w.frozen? ⟨g, 1, none⟩ = false ∧ w.frozen? ⟨g, 2, none⟩ = false ∧ w.frozen? ⟨g, 3, none⟩ = false ∧ w.frozen? ⟨g, 4, none⟩ = false ∧ w.frozen? ⟨g, 5, none⟩ = false ∧ w.frozen? ⟨g, 6, none⟩ = false ∧ w.frozen? ⟨g, 7, none⟩ = false ∧ w.frozen? ⟨g, 8, none⟩ = false ∧ w.frozen? ⟨g, 9, none⟩ = false ∧ w.frozen? ⟨g, 10, none⟩ = false ∧ w.frozen? ⟨g, 11, none⟩ = false ∧ w.frozen? ⟨g, 12, none⟩ = false ∧ w.frozen? ⟨g, 13, none⟩ = false := ⟨frozen_at h 0, frozen_at h 1, frozen_at h 2, frozen_at h 3, frozen_at h 4, frozen_at h 5, frozen_at h 6, frozen_at h 7, frozen_at h 8, frozen_at h 9, frozen_at h 10, frozen_at h 11, frozen_at h 12, frozen_at h 13⟩
theorem stored14 {w : World} {r : Nat} {a0 a1 a2 a3 a4 a5 a6 a7 a8 a9 a10 a11 a12 a13 b0 b1 b2 b3 b4 b5 b6 b7 b8 b9 b10 b11 b12 b13 : Value} {t : TypeId} (h : w.heap[r]? = some (.cells #[a0, a1, a2, a3, a4, a5, a6, a7, a8, a9, a10, a11, a12, a13] t (0, 0))) :
    ((((((((((((((w.setCell ⟨r, 0, none⟩ b0).setCell ⟨r, 1, none⟩ b1).setCell ⟨r, 2, none⟩ b2).setCell ⟨r, 3, none⟩ b3).setCell ⟨r, 4, none⟩ b4).setCell ⟨r, 5, none⟩ b5).setCell ⟨r, 6, none⟩ b6).setCell ⟨r, 7, none⟩ b7).setCell ⟨r, 8, none⟩ b8).setCell ⟨r, 9, none⟩ b9).setCell ⟨r, 10, none⟩ b10).setCell ⟨r, 11, none⟩ b11).setCell ⟨r, 12, none⟩ b12).setCell ⟨r, 13, none⟩ b13).heap[r]? = some (.cells #[b0, b1, b2, b3, b4, b5, b6, b7, b8, b9, b10, b11, b12, b13] t (0, 0)) := by
  simp [World.setCell, Array.getElem?_modify, h]
theorem stored14_grown (w : World) (r : Nat) (b0 b1 b2 b3 b4 b5 b6 b7 b8 b9 b10 b11 b12 b13 : Value) : w.grownBy ((((((((((((((w.setCell ⟨r, 0, none⟩ b0).setCell ⟨r, 1, none⟩ b1).setCell ⟨r, 2, none⟩ b2).setCell ⟨r, 3, none⟩ b3).setCell ⟨r, 4, none⟩ b4).setCell ⟨r, 5, none⟩ b5).setCell ⟨r, 6, none⟩ b6).setCell ⟨r, 7, none⟩ b7).setCell ⟨r, 8, none⟩ b8).setCell ⟨r, 9, none⟩ b9).setCell ⟨r, 10, none⟩ b10).setCell ⟨r, 11, none⟩ b11).setCell ⟨r, 12, none⟩ b12).setCell ⟨r, 13, none⟩ b13) (some r) :=
  grown_trans' (grown_trans' (grown_trans' (grown_trans' (grown_trans' (grown_trans' (grown_trans' (grown_trans' (grown_trans' (grown_trans' (grown_trans' (grown_trans' (grown_trans' (grown_set _ _ _ _) (grown_set _ _ _ _)) (grown_set _ _ _ _)) (grown_set _ _ _ _)) (grown_set _ _ _ _)) (grown_set _ _ _ _)) (grown_set _ _ _ _)) (grown_set _ _ _ _)) (grown_set _ _ _ _)) (grown_set _ _ _ _)) (grown_set _ _ _ _)) (grown_set _ _ _ _)) (grown_set _ _ _ _)) (grown_set _ _ _ _)
theorem Pv.stored {w W : World} {lo g gi gs : Nat} {l : List Nat} {a0 a1 a2 a3 a4 a5 a6 a7 a8 a9 a10 a11 a12 a13 b0 b1 b2 b3 b4 b5 b6 b7 b8 b9 b10 b11 b12 b13 : Value} (h : Pv w lo g gi l gs #[a0, a1, a2, a3, a4, a5, a6, a7, a8, a9, a10, a11, a12, a13] W) : Pv w lo g gi l gs #[b0, b1, b2, b3, b4, b5, b6, b7, b8, b9, b10, b11, b12, b13] ((((((((((((((W.setCell ⟨gs, 0, none⟩ b0).setCell ⟨gs, 1, none⟩ b1).setCell ⟨gs, 2, none⟩ b2).setCell ⟨gs, 3, none⟩ b3).setCell ⟨gs, 4, none⟩ b4).setCell ⟨gs, 5, none⟩ b5).setCell ⟨gs, 6, none⟩ b6).setCell ⟨gs, 7, none⟩ b7).setCell ⟨gs, 8, none⟩ b8).setCell ⟨gs, 9, none⟩ b9).setCell ⟨gs, 10, none⟩ b10).setCell ⟨gs, 11, none⟩ b11).setCell ⟨gs, 12, none⟩ b12).setCell ⟨gs, 13, none⟩ b13) :=
  ⟨h.1.far (stored14_grown _ _ _ _ _ _ _ _ _ _ _ _ _ _ _ _) h.2.2, stored14 h.2.1, h.2.2⟩
theorem Pv.home {w W : World} {lo g gi gs : Nat} {l : List Nat} {a0 a1 a2 a3 a4 a5 a6 a7 a8 a9 a10 a11 a12 a13 : Value} (h : Pv w lo g gi l gs #[a0, a1, a2, a3, a4, a5, a6, a7, a8, a9, a10, a11, a12, a13] W) : (W.cell? ⟨gs, 9, none⟩ = some a9 ∧ W.cell? ⟨gs, 10, none⟩ = some a10 ∧ W.cell? ⟨gs, 11, none⟩ = some a11 ∧ W.cell? ⟨gs, 12, none⟩ = some a12) ∧ W.cell? ⟨gi, 0, none⟩ = some (.pointer (some ⟨g, 0, none⟩)) := by
  obtain ⟨-, -, -, -, -, -, -, -, -, c9, c10, c11, c12, -⟩ := cells14 h.row
  exact ⟨⟨c9, c10, c11, c12⟩, h.cell⟩
theorem Pv.last {w W : World} {lo g gi gs : Nat} {l : List Nat} {a0 a1 a2 a3 a4 a5 a6 a7 a8 a9 a10 a11 a12 a13 b : Value} (h : Pv w lo g gi l gs #[a0, a1, a2, a3, a4, a5, a6, a7, a8, a9, a10, a11, a12, a13] W) : Pv w lo g gi l gs #[a0, a1, a2, a3, a4, a5, a6, a7, a8, a9, a10, a11, a12, b] (W.setCell ⟨gs, 13, none⟩ b) :=
  ⟨h.1.far (grown_set _ _ _ _) h.2.2, by
    have := h.2.1
    simp [World.setCell, Array.getElem?_modify, this], h.2.2⟩
/-- Layouts in a block of their own. -/
theorem ls_one {w : World} {b B : Nat} {x0 x1 x2 x3 : Int} {t : TypeId} (h : w.heap[b]? = some (.cells #[.int .i64 x0, .int .i64 x1, .int .i64 x2, .int .i64 x3] t (0, 0))) (hB : b < B) : Ls w B (some ⟨b, 0, none⟩) [⟨x0, x1, x2, x3⟩] := fun k hk => by
  obtain rfl : k = 0 := by simp at hk; exact hk
  obtain ⟨c0, c1, c2, c3⟩ := four_cells h
  exact ⟨_, rfl, hB, c0, c1, c2, c3⟩
theorem ls_two {w : World} {b B : Nat} {x0 x1 x2 x3 y0 y1 y2 y3 : Int} {t : TypeId} (h : w.heap[b]? = some (.cells #[.int .i64 x0, .int .i64 x1, .int .i64 x2, .int .i64 x3, .int .i64 y0, .int .i64 y1, .int .i64 y2, .int .i64 y3] t (0, 0))) (hB : b < B) : Ls w B (some ⟨b, 0, none⟩) [⟨x0, x1, x2, x3⟩, ⟨y0, y1, y2, y3⟩] := fun k hk => by
  have hc : ∀ j v, #[Value.int .i64 x0, .int .i64 x1, .int .i64 x2, .int .i64 x3, .int .i64 y0, .int .i64 y1, .int .i64 y2, .int .i64 y3][j]? = some v → w.cell? ((Addr.mk b 0 none).add j) = some v := fun j v hv => by
    rw [add_zero_block, cell_of_row w b j _ t (0, 0) h]; exact hv
  have : k = 0 ∨ k = 1 := by simp at hk; omega
  rcases this with rfl | rfl
  · exact ⟨_, rfl, hB, hc 0 _ rfl, hc 1 _ rfl, hc 2 _ rfl, hc 3 _ rfl⟩
  · exact ⟨_, rfl, hB, hc 4 _ rfl, hc 5 _ rfl, hc 6 _ rfl, hc 7 _ rfl⟩
/-- What parse returns of the payload p. -/
def GotSb (w : World) (s : Sb.S) (r : Ending) (w' : World) : Prop := ∃ A n c, r = .returned (.agg #[.int .i64 s.gen, .int .i64 s.phase, .int .i64 s.mig, .int .i64 s.tail, .int .i64 s.now, .int .i64 s.t.id, .int .i64 s.t.ver, .int .i64 s.t.rs, .int .i64 s.t.reg, .int .i64 s.h.id, .int .i64 s.h.ver, .int .i64 s.h.rs, .int .i64 s.h.reg, .slice A n c]) ∧ SbAt w' w'.heap.size s A n c ∧ (∀ ad, A = some ad → w.heap.size ≤ ad.block) ∧ Below w.heap.size w w'
set_option maxHeartbeats 8000000 in
theorem sbparse_any (A : Option Addr) (B c : Nat) (p : List Nat) (w : World) (hB : B ≤ w.heap.size) (hs : SlIs A 59 c) (hl : p.length = 59) (hb : Bs w B A p) :
    Calls Tryd.prog 30 #[.slice A 59 c] w (GotSb w (Sb.rd Sb.rl Sb.cnt p)) := by
  have HRD : Hid (Sb.rd Sb.rl Sb.cnt p = ⟨(Wire.num (p.take 5) : Int), (Wire.num ((p.drop 5).take 1) : Int), (Wire.num ((p.drop 6).take 4) : Int), (Wire.num ((p.drop 10).take 6) : Int), (Wire.num ((p.drop 16).take 5) : Int), Sb.rl (p.drop 21), Sb.rl (p.drop 28), [Sb.rl (p.drop 28), Sb.rl (p.drop 36)].take (Sb.cnt (Wire.num ((p.drop 35).take 1)))⟩) := rfl
  rw [HRD.out]
  clear HRD
  have L5 : Hid ((p.drop 5).length = 54) := by show _ = _; rw [List.length_drop]; omega
  have L6 : Hid ((p.drop 6).length = 53) := by show _ = _; rw [List.length_drop]; omega
  have L10 : Hid ((p.drop 10).length = 49) := by show _ = _; rw [List.length_drop]; omega
  have L16 : Hid ((p.drop 16).length = 43) := by show _ = _; rw [List.length_drop]; omega
  have L21 : Hid ((p.drop 21).length = 38) := by show _ = _; rw [List.length_drop]; omega
  have L28 : Hid ((p.drop 28).length = 31) := by show _ = _; rw [List.length_drop]; omega
  have L35 : Hid ((p.drop 35).length = 24) := by show _ = _; rw [List.length_drop]; omega
  have L36 : Hid ((p.drop 36).length = 23) := by show _ = _; rw [List.length_drop]; omega
  have D6 : Hid ((p.drop 5).drop 1 = p.drop 6) := List.drop_drop ..
  have D10 : Hid ((p.drop 6).drop 4 = p.drop 10) := List.drop_drop ..
  have D16 : Hid ((p.drop 10).drop 6 = p.drop 16) := List.drop_drop ..
  have D21 : Hid ((p.drop 16).drop 5 = p.drop 21) := List.drop_drop ..
  have D28 : Hid ((p.drop 21).drop 7 = p.drop 28) := List.drop_drop ..
  have D35 : Hid ((p.drop 28).drop 7 = p.drop 35) := List.drop_drop ..
  have D36 : Hid ((p.drop 35).drop 1 = p.drop 36) := List.drop_drop ..
  have D43 : Hid ((p.drop 36).drop 7 = p.drop 43) := List.drop_drop ..
  have hby : ∀ x ∈ p, x < 256 := hb.lt
  have hk8 := num1 (p.drop 35) (fun x hx => hby x (List.mem_of_mem_drop hx))
  generalize hn0 : Wire.num (p.take 5) = n0 at *
  generalize hn1 : Wire.num ((p.drop 5).take 1) = n1 at *
  generalize hn2 : Wire.num ((p.drop 6).take 4) = n2 at *
  generalize hn3 : Wire.num ((p.drop 10).take 6) = n3 at *
  generalize hn4 : Wire.num ((p.drop 16).take 5) = n4 at *
  generalize hn7 : Wire.num ((p.drop 35).take 1) = k at *
  obtain ⟨t0, t1, t2, t3, HT⟩ : ∃ a b c d, Hid (Sb.rl (p.drop 21) = ⟨a, b, c, d⟩) := ⟨_, _, _, _, rfl⟩
  obtain ⟨h0, h1, h2, h3, HH⟩ : ∃ a b c d, Hid (Sb.rl (p.drop 28) = ⟨a, b, c, d⟩) := ⟨_, _, _, _, rfl⟩
  obtain ⟨f0, f1, f2, f3, HF⟩ : ∃ a b c d, Hid (Sb.rl (p.drop 36) = ⟨a, b, c, d⟩) := ⟨_, _, _, _, rfl⟩
  rw [HT.out, HH.out, HF.out]
  generalize hp5 : p.drop 5 = p5 at *
  generalize hp6 : p.drop 6 = p6 at *
  generalize hp10 : p.drop 10 = p10 at *
  generalize hp16 : p.drop 16 = p16 at *
  generalize hp21 : p.drop 21 = p21 at *
  generalize hp28 : p.drop 28 = p28 at *
  generalize hp35 : p.drop 35 = p35 at *
  generalize hp36 : p.drop 36 = p36 at *
  generalize hp43 : p.drop 43 = p43 at *
  have N0 : Hid (∀ (w0 : World) lo g gi W, Ps w0 lo g gi false p W → Calls Tryd.prog 55 #[.int .i64 5, .pointer (some ⟨gi, 0, none⟩)] W fun r w' => r = .returned (.int .i64 (n0 : Int)) ∧ Ps w0 lo g gi false p5 w' ∧ W.grownBy w' (some g)) := fun w0 lo g gi W h => sbnext_any w0 lo g gi p p5 5 5 n0 rfl (by decide) (by decide) (by omega) hn0 hp5 W h
  have N1 : Hid (∀ (w0 : World) lo g gi W, Ps w0 lo g gi false p5 W → Calls Tryd.prog 55 #[.int .i64 1, .pointer (some ⟨gi, 0, none⟩)] W fun r w' => r = .returned (.int .i64 (n1 : Int)) ∧ Ps w0 lo g gi false p6 w' ∧ W.grownBy w' (some g)) := fun w0 lo g gi W h => sbnext_any w0 lo g gi p5 p6 1 1 n1 rfl (by decide) (by decide) (by have := L5.out; omega) hn1 D6.out W h
  have N2 : Hid (∀ (w0 : World) lo g gi W, Ps w0 lo g gi false p6 W → Calls Tryd.prog 55 #[.int .i64 4, .pointer (some ⟨gi, 0, none⟩)] W fun r w' => r = .returned (.int .i64 (n2 : Int)) ∧ Ps w0 lo g gi false p10 w' ∧ W.grownBy w' (some g)) := fun w0 lo g gi W h => sbnext_any w0 lo g gi p6 p10 4 4 n2 rfl (by decide) (by decide) (by have := L6.out; omega) hn2 D10.out W h
  have N3 : Hid (∀ (w0 : World) lo g gi W, Ps w0 lo g gi false p10 W → Calls Tryd.prog 55 #[.int .i64 6, .pointer (some ⟨gi, 0, none⟩)] W fun r w' => r = .returned (.int .i64 (n3 : Int)) ∧ Ps w0 lo g gi false p16 w' ∧ W.grownBy w' (some g)) := fun w0 lo g gi W h => sbnext_any w0 lo g gi p10 p16 6 6 n3 rfl (by decide) (by decide) (by have := L10.out; omega) hn3 D16.out W h
  have N4 : Hid (∀ (w0 : World) lo g gi W, Ps w0 lo g gi false p16 W → Calls Tryd.prog 55 #[.int .i64 5, .pointer (some ⟨gi, 0, none⟩)] W fun r w' => r = .returned (.int .i64 (n4 : Int)) ∧ Ps w0 lo g gi false p21 w' ∧ W.grownBy w' (some g)) := fun w0 lo g gi W h => sbnext_any w0 lo g gi p16 p21 5 5 n4 rfl (by decide) (by decide) (by have := L16.out; omega) hn4 D21.out W h
  have N5 : Hid (∀ (w0 : World) lo g gi W, Ps w0 lo g gi false p21 W → Calls Tryd.prog 57 #[.pointer (some ⟨g, 0, none⟩)] W fun r w' => r = .returned (.agg #[.int .i64 t0, .int .i64 t1, .int .i64 t2, .int .i64 t3]) ∧ Ps w0 lo g gi false p28 w' ∧ W.grownBy w' (some g)) := fun w0 lo g gi W h => sbtake_any w0 lo g gi p21 p28 ⟨t0, t1, t2, t3⟩ (by have := L21.out; omega) HT.out D28.out W h
  have N6 : Hid (∀ (w0 : World) lo g gi W, Ps w0 lo g gi false p28 W → Calls Tryd.prog 57 #[.pointer (some ⟨g, 0, none⟩)] W fun r w' => r = .returned (.agg #[.int .i64 h0, .int .i64 h1, .int .i64 h2, .int .i64 h3]) ∧ Ps w0 lo g gi false p35 w' ∧ W.grownBy w' (some g)) := fun w0 lo g gi W h => sbtake_any w0 lo g gi p28 p35 ⟨h0, h1, h2, h3⟩ (by have := L28.out; omega) HH.out D35.out W h
  have N7 : Hid (∀ (w0 : World) lo g gi W, Ps w0 lo g gi false p35 W → Calls Tryd.prog 55 #[.int .i64 1, .pointer (some ⟨gi, 0, none⟩)] W fun r w' => r = .returned (.int .i64 (k : Int)) ∧ Ps w0 lo g gi false p36 w' ∧ W.grownBy w' (some g)) := fun w0 lo g gi W h => sbnext_any w0 lo g gi p35 p36 1 1 k rfl (by decide) (by decide) (by have := L35.out; omega) hn7 D36.out W h
  have N8 : Hid (∀ (w0 : World) lo g gi W, Ps w0 lo g gi false p36 W → Calls Tryd.prog 57 #[.pointer (some ⟨g, 0, none⟩)] W fun r w' => r = .returned (.agg #[.int .i64 f0, .int .i64 f1, .int .i64 f2, .int .i64 f3]) ∧ Ps w0 lo g gi false p43 w' ∧ W.grownBy w' (some g)) := fun w0 lo g gi W h => sbtake_any w0 lo g gi p36 p43 ⟨f0, f1, f2, f3⟩ (by have := L36.out; omega) HF.out D43.out W h
  have HNR : Hid (∀ o : Obj, Calls Tryd.prog 54 #[.slice A 59 c] (w.alloc o) (NewRd (w.alloc o) p)) := fun o =>
    newreader_any A B 59 c p _ hs.1 hl (by decide) (hb.below ((Below.refl _ w).alloc (Nat.le_refl _) o) hB)
  clear hs hl hb hn0 hn1 hn2 hn3 hn4 hn7 hby HT HH HF hp5 L5 hp6 L6 hp10 L10 hp16 L16 hp21 L21 hp28 L28 hp35 L35 hp36 L36 hp43 D6 D10 D16 D21 D28 D35 D36 D43
  have hmf : ∀ (fn : Fn) (first cap : Array Value) (w : World), (Instr.makeFunc fn first cap).run Tryd.prog w = .ok (.func fn first cap) w := fun _ _ _ _ => rfl
  have HS0 := Lib.hid (sd_new w #[.int .i64 0, .int .i64 0, .int .i64 0, .int .i64 0, .int .i64 0, .int .i64 0, .int .i64 0, .int .i64 0, .int .i64 0, .int .i64 0, .int .i64 0, .int .i64 0, .int .i64 0, .slice none 0 0] 27)
  unfold GotSb
  go_enter Tryd.func30, Tryd.ntmps30
  go_wp2_with fail
  refine (HNR.out _).mono ?_
  rintro r w1 ⟨g, rfl, hr1, hb1⟩
  generalize w.alloc (.cells _ 27) = w0 at *
  have H0 := Lib.hid (ps_first hr1 hb1).drew
  have H0a := Lib.hid ((ps_first hr1 hb1).made #[.int .i64 0, .int .i64 0, .int .i64 0, .int .i64 0, .int .i64 0, .int .i64 0, .int .i64 0, .int .i64 0, .int .i64 0, .int .i64 0, .int .i64 0, .int .i64 0, .int .i64 0, .slice none 0 0]).drew
  clear hr1 hb1
  go_upto_region 3 with fail
  generalize w1.alloc (.cells #[.pointer (some ⟨g, 0, none⟩)] 90) = w2 at *
  go_cut [5] (fun s5 wx => ∃ gs, s5 = .pointer (some ⟨gs, 0, none⟩) ∧ Hid (Pv w0 w0.heap.size g w1.heap.size p35 gs #[.int .i64 (n0 : Int), .int .i64 (n1 : Int), .int .i64 (n2 : Int), .int .i64 (n3 : Int), .int .i64 (n4 : Int), .int .i64 t0, .int .i64 t1, .int .i64 t2, .int .i64 t3, .int .i64 h0, .int .i64 h1, .int .i64 h2, .int .i64 h3, .slice none 0 0] wx))
  case first =>
    have hc0 := H0.out.cell
    go_region_held3 (fun W => W.cell? ⟨w1.heap.size, 0, none⟩ = some (.pointer (some ⟨g, 0, none⟩)))
      (first
        | (have hh := Z7.out; with_reducible exact Z7.out.stored.cell)
        | (have hh := H7.out; with_reducible exact (H7.out.made _).cell)
        | (have hh := Z7.out; with_reducible exact Z7.out.cell)
        | (have hh := H7.out; with_reducible exact (H7.out.made _).cell)
        | (have hh := H7.out; with_reducible exact H7.out.cell)
        | (have hh := Z6.out; with_reducible exact Z6.out.cell)
        | (have hh := H6.out; with_reducible exact (H6.out.made _).cell)
        | (have hh := H6.out; with_reducible exact H6.out.cell)
        | (have hh := Z5.out; with_reducible exact Z5.out.cell)
        | (have hh := H5.out; with_reducible exact (H5.out.made _).cell)
        | (have hh := H5.out; with_reducible exact H5.out.cell)
        | (have hh := Z4.out; with_reducible exact Z4.out.cell)
        | (have hh := H4.out; with_reducible exact (H4.out.made _).cell)
        | (have hh := H4.out; with_reducible exact H4.out.cell)
        | (have hh := Z3.out; with_reducible exact Z3.out.cell)
        | (have hh := H3.out; with_reducible exact (H3.out.made _).cell)
        | (have hh := H3.out; with_reducible exact H3.out.cell)
        | (have hh := Z2.out; with_reducible exact Z2.out.cell)
        | (have hh := H2.out; with_reducible exact (H2.out.made _).cell)
        | (have hh := H2.out; with_reducible exact H2.out.cell)
        | (have hh := Z1.out; with_reducible exact Z1.out.cell)
        | (have hh := H1.out; with_reducible exact (H1.out.made _).cell)
        | (have hh := H1.out; with_reducible exact H1.out.cell)
        | (have hh := H0a.out; with_reducible exact H0a.out.cell)
        | (have hh := H0.out; with_reducible exact H0.out.cell))
      (first
        | (go_at_call 55; first
            | (have hh := Z4.out; with_reducible refine (N4.out _ _ _ _ _ hh.ps).mono ?_; rintro r v ⟨rfl, hp, hg⟩; have Z5 := Lib.hid (hh.next hp hg); clear hp hg hh)
            | (have hh := H4.out.made #[.int .i64 0, .int .i64 0, .int .i64 0, .int .i64 0, .int .i64 0, .int .i64 0, .int .i64 0, .int .i64 0, .int .i64 0, .int .i64 0, .int .i64 0, .int .i64 0, .int .i64 0, .slice none 0 0]; with_reducible refine (N4.out _ _ _ _ _ hh.ps).mono ?_; rintro r v ⟨rfl, hp, hg⟩; have Z5 := Lib.hid (hh.next hp hg); clear hp hg hh)
            | (have hh := H4.out; with_reducible refine (N4.out _ _ _ _ _ hh).mono ?_; rintro r v ⟨rfl, hp, hg⟩; have H5 := Lib.hid hp; clear hp hg hh)
            | (have hh := Z3.out; with_reducible refine (N3.out _ _ _ _ _ hh.ps).mono ?_; rintro r v ⟨rfl, hp, hg⟩; have Z4 := Lib.hid (hh.next hp hg); clear hp hg hh)
            | (have hh := H3.out.made #[.int .i64 0, .int .i64 0, .int .i64 0, .int .i64 0, .int .i64 0, .int .i64 0, .int .i64 0, .int .i64 0, .int .i64 0, .int .i64 0, .int .i64 0, .int .i64 0, .int .i64 0, .slice none 0 0]; with_reducible refine (N3.out _ _ _ _ _ hh.ps).mono ?_; rintro r v ⟨rfl, hp, hg⟩; have Z4 := Lib.hid (hh.next hp hg); clear hp hg hh)
            | (have hh := H3.out; with_reducible refine (N3.out _ _ _ _ _ hh).mono ?_; rintro r v ⟨rfl, hp, hg⟩; have H4 := Lib.hid hp; clear hp hg hh)
            | (have hh := Z2.out; with_reducible refine (N2.out _ _ _ _ _ hh.ps).mono ?_; rintro r v ⟨rfl, hp, hg⟩; have Z3 := Lib.hid (hh.next hp hg); clear hp hg hh)
            | (have hh := H2.out.made #[.int .i64 0, .int .i64 0, .int .i64 0, .int .i64 0, .int .i64 0, .int .i64 0, .int .i64 0, .int .i64 0, .int .i64 0, .int .i64 0, .int .i64 0, .int .i64 0, .int .i64 0, .slice none 0 0]; with_reducible refine (N2.out _ _ _ _ _ hh.ps).mono ?_; rintro r v ⟨rfl, hp, hg⟩; have Z3 := Lib.hid (hh.next hp hg); clear hp hg hh)
            | (have hh := H2.out; with_reducible refine (N2.out _ _ _ _ _ hh).mono ?_; rintro r v ⟨rfl, hp, hg⟩; have H3 := Lib.hid hp; clear hp hg hh)
            | (have hh := Z1.out; with_reducible refine (N1.out _ _ _ _ _ hh.ps).mono ?_; rintro r v ⟨rfl, hp, hg⟩; have Z2 := Lib.hid (hh.next hp hg); clear hp hg hh)
            | (have hh := H1.out.made #[.int .i64 0, .int .i64 0, .int .i64 0, .int .i64 0, .int .i64 0, .int .i64 0, .int .i64 0, .int .i64 0, .int .i64 0, .int .i64 0, .int .i64 0, .int .i64 0, .int .i64 0, .slice none 0 0]; with_reducible refine (N1.out _ _ _ _ _ hh.ps).mono ?_; rintro r v ⟨rfl, hp, hg⟩; have Z2 := Lib.hid (hh.next hp hg); clear hp hg hh)
            | (have hh := H1.out; with_reducible refine (N1.out _ _ _ _ _ hh).mono ?_; rintro r v ⟨rfl, hp, hg⟩; have H2 := Lib.hid hp; clear hp hg hh)
            | (have hh := H0a.out; with_reducible refine (N0.out _ _ _ _ _ hh.ps).mono ?_; rintro r v ⟨rfl, hp, hg⟩; have Z1 := Lib.hid (hh.next hp hg); clear hp hg hh)
            | (have hh := H0.out; with_reducible refine (N0.out _ _ _ _ _ hh).mono ?_; rintro r v ⟨rfl, hp, hg⟩; have H1 := Lib.hid hp; clear hp hg hh))
        | (go_at_call 57; first
            | (have hh := Z6.out; with_reducible refine (N6.out _ _ _ _ _ hh.ps).mono ?_; rintro r v ⟨rfl, hp, hg⟩; have Z7 := Lib.hid (hh.next hp hg); obtain ⟨x0, x1, x2, x3, x4, x5, x6, x7, x8, x9, x10, x11, x12, x13⟩ := cells14 Z7.out.row; obtain ⟨fz0, fz1, fz2, fz3, fz4, fz5, fz6, fz7, fz8, fz9, fz10, fz11, fz12, fz13⟩ := frozen14 Z7.out.row; clear hp hg hh)
            | (have hh := H6.out.made #[.int .i64 0, .int .i64 0, .int .i64 0, .int .i64 0, .int .i64 0, .int .i64 0, .int .i64 0, .int .i64 0, .int .i64 0, .int .i64 0, .int .i64 0, .int .i64 0, .int .i64 0, .slice none 0 0]; with_reducible refine (N6.out _ _ _ _ _ hh.ps).mono ?_; rintro r v ⟨rfl, hp, hg⟩; have Z7 := Lib.hid (hh.next hp hg); obtain ⟨x0, x1, x2, x3, x4, x5, x6, x7, x8, x9, x10, x11, x12, x13⟩ := cells14 Z7.out.row; obtain ⟨fz0, fz1, fz2, fz3, fz4, fz5, fz6, fz7, fz8, fz9, fz10, fz11, fz12, fz13⟩ := frozen14 Z7.out.row; clear hp hg hh)
            | (have hh := H6.out; with_reducible refine (N6.out _ _ _ _ _ hh).mono ?_; rintro r v ⟨rfl, hp, hg⟩; have H7 := Lib.hid hp; clear hp hg hh)
            | (have hh := Z5.out; with_reducible refine (N5.out _ _ _ _ _ hh.ps).mono ?_; rintro r v ⟨rfl, hp, hg⟩; have Z6 := Lib.hid (hh.next hp hg); clear hp hg hh)
            | (have hh := H5.out.made #[.int .i64 0, .int .i64 0, .int .i64 0, .int .i64 0, .int .i64 0, .int .i64 0, .int .i64 0, .int .i64 0, .int .i64 0, .int .i64 0, .int .i64 0, .int .i64 0, .int .i64 0, .slice none 0 0]; with_reducible refine (N5.out _ _ _ _ _ hh.ps).mono ?_; rintro r v ⟨rfl, hp, hg⟩; have Z6 := Lib.hid (hh.next hp hg); clear hp hg hh)
            | (have hh := H5.out; with_reducible refine (N5.out _ _ _ _ _ hh).mono ?_; rintro r v ⟨rfl, hp, hg⟩; have H6 := Lib.hid hp; clear hp hg hh)))
    all_goals
      go_wp2_with fail
      go_meet
      first
        | exact ⟨_, rfl, Z7.out.stored⟩
        | exact ⟨_, rfl, H7.out.made _⟩
  case rest =>
    obtain ⟨gs, rfl, HV⟩ := hcut
    generalize wc = w3 at *
    clear N0 N1 N2 N3 N4 N5 N6 H0 H0a HNR
    have hc0 := HV.out.cell
    have HGS : Hid (gs < w3.heap.size) := (Array.getElem?_eq_some_iff.1 HV.out.row).1
    have HGG : Hid (g < w1.heap.size ∧ w1.heap.size < gs ∧ w0.heap.size ≤ g) := ⟨HV.out.1.2.2.2.2, HV.out.2.2, HV.out.1.2.2.2.1⟩
    have HLW : Hid (w.heap.size < w0.heap.size) := (Array.getElem?_eq_some_iff.1 HS0.out.1).1
    have HR0 : Hid (∀ W l, Ps w0 w0.heap.size g w1.heap.size false l W → W.heap[w.heap.size]? = some (.cells #[.int .i64 0, .int .i64 0, .int .i64 0, .int .i64 0, .int .i64 0, .int .i64 0, .int .i64 0, .int .i64 0, .int .i64 0, .int .i64 0, .int .i64 0, .int .i64 0, .int .i64 0, .slice none 0 0] 27 (0, 0)) ∧ Below w.heap.size w W) := fun W l h => ⟨(h.2.2.1.block _ HLW.out).trans HS0.out.1, HS0.out.2.trans (h.2.2.1.mono (Nat.le_of_lt HLW.out))⟩
    go_wp2_with fail
    refine (N7.out _ _ _ _ _ HV.out.ps).mono ?_
    rintro r w4 ⟨rfl, hp, hg⟩
    have HV4 := Lib.hid (HV.out.next hp hg)
    have HGS4 : Hid (gs < w4.heap.size) := (Array.getElem?_eq_some_iff.1 HV4.out.row).1
    clear hp hg hc0 HV HGS N7
    by_cases k1 : k = 1
    · subst k1
      have HW : Hid (Pv w0 w0.heap.size g w1.heap.size p36 gs #[.int .i64 (n0 : Int), .int .i64 (n1 : Int), .int .i64 (n2 : Int), .int .i64 (n3 : Int), .int .i64 (n4 : Int), .int .i64 t0, .int .i64 t1, .int .i64 t2, .int .i64 t3, .int .i64 h0, .int .i64 h1, .int .i64 h2, .int .i64 h3, .slice (some ⟨w4.heap.size, 0, none⟩) 1 1] ((w4.alloc (.cells #[.int .i64 h0, .int .i64 h1, .int .i64 h2, .int .i64 h3] 24)).setCell ⟨gs, 13, none⟩ (.slice (some ⟨w4.heap.size, 0, none⟩) 1 1))) := (HV4.out.alloc _).last
      have HBK : Hid (((w4.alloc (.cells #[.int .i64 h0, .int .i64 h1, .int .i64 h2, .int .i64 h3] 24)).setCell ⟨gs, 13, none⟩ (.slice (some ⟨w4.heap.size, 0, none⟩) 1 1)).heap[w4.heap.size]? = some (.cells #[.int .i64 h0, .int .i64 h1, .int .i64 h2, .int .i64 h3] 24 (0, 0))) := ((grown_set _ gs 13 _).block _ (by simp) (fun e => by injection e with e; have := HGS4.out; omega)).trans (heap_alloc_new _ _)
      obtain ⟨x0, x1, x2, x3, x4, x5, x6, x7, x8, x9, x10, x11, x12, x13⟩ := cells14 HV4.out.row
      have HVA := HV4.out.alloc (.cells #[.int .i64 h0, .int .i64 h1, .int .i64 h2, .int .i64 h3] 24)
      have fz := frozen_at HVA.row 13
      obtain ⟨-, -, -, -, -, -, -, -, -, -, -, -, -, fc⟩ := cells14 HVA.row
      clear HVA
      go_upto_region 9 with fail
      clear x0 x1 x2 x3 x4 x5 x6 x7 x8 x9 x10 x11 x12 x13 fz fc
      generalize (w4.alloc (.cells #[.int .i64 h0, .int .i64 h1, .int .i64 h2, .int .i64 h3] 24)).setCell ⟨gs, 13, none⟩ (.slice (some ⟨w4.heap.size, 0, none⟩) 1 1) = w5 at *
      obtain ⟨x0, x1, x2, x3, x4, x5, x6, x7, x8, x9, x10, x11, x12, x13⟩ := cells14 HW.out.row
      obtain ⟨hr5, hb5⟩ := HR0.out _ _ HW.out.ps
      have HR5 := Lib.hid hr5
      have HB5 := Lib.hid hb5
      clear hr5 hb5 HR0 HV4
      obtain ⟨y0, y1, y2, y3, y4, y5, y6, y7, y8, y9, y10, y11, y12, y13⟩ := cells14 HR5.out
      obtain ⟨fz0, fz1, fz2, fz3, fz4, fz5, fz6, fz7, fz8, fz9, fz10, fz11, fz12, fz13⟩ := frozen14 HR5.out
      go_wp2_with fail
      (try simp only [Exit.inBlock, Exit.then])
      refine bodyPost_ret (results_cell_row rfl _ _ w.heap.size _ _ (0, 0) _ rfl (stored14 HR5.out) Tryd.underlying27 rfl (by kernel_rfl)) rfl ?_
      have HGR := stored14_grown w5 w.heap.size (.int .i64 (n0 : Int)) (.int .i64 (n1 : Int)) (.int .i64 (n2 : Int)) (.int .i64 (n3 : Int)) (.int .i64 (n4 : Int)) (.int .i64 t0) (.int .i64 t1) (.int .i64 t2) (.int .i64 t3) (.int .i64 h0) (.int .i64 h1) (.int .i64 h2) (.int .i64 h3) (.slice (some ⟨w4.heap.size, 0, none⟩) 1 1)
      have hlt : w4.heap.size < w5.heap.size := (Array.getElem?_eq_some_iff.1 HBK.out).1
      refine ⟨_, 1, 1, rfl, ⟨⟨(fun e => by cases e), Nat.le_refl _, by decide⟩, rfl, ls_one ((HGR.block _ hlt (fun e => by injection e with e; have := HGS4.out; have := HGG.out; have := HLW.out; omega)).trans HBK.out) (Nat.lt_of_lt_of_le hlt HGR.size)⟩, (fun ad e => by injection e with e; subst e; have := HGS4.out; have := HGG.out; have := HLW.out; show _ ≤ w4.heap.size; omega), HB5.out.trans (below_of_grown HGR (Nat.le_refl _) HB5.out.size)⟩
    by_cases k2 : k = 2
    · subst k2
      have HV4d := Lib.hid HV4.out.drew
      go_upto_region 8 with fail
      go_region_held3 (fun W => (W.cell? ⟨gs, 9, none⟩ = some (.int .i64 h0) ∧ W.cell? ⟨gs, 10, none⟩ = some (.int .i64 h1) ∧ W.cell? ⟨gs, 11, none⟩ = some (.int .i64 h2) ∧ W.cell? ⟨gs, 12, none⟩ = some (.int .i64 h3)) ∧ W.cell? ⟨w1.heap.size, 0, none⟩ = some (.pointer (some ⟨g, 0, none⟩)))
        (first
          | (have hh := HV5.out; with_reducible exact (hh.alloc _).last.home)
          | (have hh := HV5.out; with_reducible exact (hh.alloc _).home)
          | (have hh := HV5.out; with_reducible exact hh.home)
          | (with_reducible exact HV4d.out.home))
        (first
          | (go_at_call 57; refine (N8.out _ _ _ _ _ HV4d.out.ps).mono ?_; rintro r w5 ⟨rfl, hp, hg⟩; have HV5 := Lib.hid (HV4d.out.next hp hg); have HVA := HV5.out.alloc (.cells #[.int .i64 h0, .int .i64 h1, .int .i64 h2, .int .i64 h3, .int .i64 f0, .int .i64 f1, .int .i64 f2, .int .i64 f3] 24); have fz := frozen_at HVA.row 13; obtain ⟨-, -, -, -, -, -, -, -, -, -, -, -, -, fc⟩ := cells14 HVA.row; clear HVA hp hg))
      have HGS5 : Hid (gs < w5.heap.size) := (Array.getElem?_eq_some_iff.1 HV5.out.row).1
      have HW : Hid (Pv w0 w0.heap.size g w1.heap.size p43 gs #[.int .i64 (n0 : Int), .int .i64 (n1 : Int), .int .i64 (n2 : Int), .int .i64 (n3 : Int), .int .i64 (n4 : Int), .int .i64 t0, .int .i64 t1, .int .i64 t2, .int .i64 t3, .int .i64 h0, .int .i64 h1, .int .i64 h2, .int .i64 h3, .slice (some ⟨w5.heap.size, 0, none⟩) 2 2] ((w5.alloc (.cells #[.int .i64 h0, .int .i64 h1, .int .i64 h2, .int .i64 h3, .int .i64 f0, .int .i64 f1, .int .i64 f2, .int .i64 f3] 24)).setCell ⟨gs, 13, none⟩ (.slice (some ⟨w5.heap.size, 0, none⟩) 2 2))) := (HV5.out.alloc _).last
      have HBK : Hid (((w5.alloc (.cells #[.int .i64 h0, .int .i64 h1, .int .i64 h2, .int .i64 h3, .int .i64 f0, .int .i64 f1, .int .i64 f2, .int .i64 f3] 24)).setCell ⟨gs, 13, none⟩ (.slice (some ⟨w5.heap.size, 0, none⟩) 2 2)).heap[w5.heap.size]? = some (.cells #[.int .i64 h0, .int .i64 h1, .int .i64 h2, .int .i64 h3, .int .i64 f0, .int .i64 f1, .int .i64 f2, .int .i64 f3] 24 (0, 0))) := ((grown_set _ gs 13 _).block _ (by simp) (fun e => by injection e with e; have := HGS5.out; omega)).trans (heap_alloc_new _ _)
      (try go_upto_region 9 with fail)
      clear fz fc
      generalize (w5.alloc (.cells #[.int .i64 h0, .int .i64 h1, .int .i64 h2, .int .i64 h3, .int .i64 f0, .int .i64 f1, .int .i64 f2, .int .i64 f3] 24)).setCell ⟨gs, 13, none⟩ (.slice (some ⟨w5.heap.size, 0, none⟩) 2 2) = w6 at *
      obtain ⟨x0, x1, x2, x3, x4, x5, x6, x7, x8, x9, x10, x11, x12, x13⟩ := cells14 HW.out.row
      obtain ⟨hr5, hb5⟩ := HR0.out _ _ HW.out.ps
      have HR5 := Lib.hid hr5
      have HB5 := Lib.hid hb5
      clear hr5 hb5 HR0 HV4 HV4d HV5
      obtain ⟨y0, y1, y2, y3, y4, y5, y6, y7, y8, y9, y10, y11, y12, y13⟩ := cells14 HR5.out
      obtain ⟨fz0, fz1, fz2, fz3, fz4, fz5, fz6, fz7, fz8, fz9, fz10, fz11, fz12, fz13⟩ := frozen14 HR5.out
      go_wp2_with fail
      (try simp only [Exit.inBlock, Exit.then])
      refine bodyPost_ret (results_cell_row rfl _ _ w.heap.size _ _ (0, 0) _ rfl (stored14 HR5.out) Tryd.underlying27 rfl (by kernel_rfl)) rfl ?_
      have HGR := stored14_grown w6 w.heap.size (.int .i64 (n0 : Int)) (.int .i64 (n1 : Int)) (.int .i64 (n2 : Int)) (.int .i64 (n3 : Int)) (.int .i64 (n4 : Int)) (.int .i64 t0) (.int .i64 t1) (.int .i64 t2) (.int .i64 t3) (.int .i64 h0) (.int .i64 h1) (.int .i64 h2) (.int .i64 h3) (.slice (some ⟨w5.heap.size, 0, none⟩) 2 2)
      have hlt : w5.heap.size < w6.heap.size := (Array.getElem?_eq_some_iff.1 HBK.out).1
      refine ⟨_, 2, 2, rfl, ⟨⟨(fun e => by cases e), Nat.le_refl _, by decide⟩, rfl, ls_two ((HGR.block _ hlt (fun e => by injection e with e; have := HGS5.out; have := HGG.out; have := HLW.out; omega)).trans HBK.out) (Nat.lt_of_lt_of_le hlt HGR.size)⟩, (fun ad e => by injection e with e; subst e; have := HGS5.out; have := HGG.out; have := HLW.out; show _ ≤ w5.heap.size; omega), HB5.out.trans (below_of_grown HGR (Nat.le_refl _) HB5.out.size)⟩
    · have hc : Sb.cnt k = 0 := by unfold Sb.cnt; rw [if_neg k1, if_neg k2]
      have d1 : ((k : Int) == 1) = false := by rw [beq_eq_false_iff_ne]; omega
      have d2 : ((k : Int) == 2) = false := by rw [beq_eq_false_iff_ne]; omega
      have HC := Lib.hid hc
      clear hc k1 k2 hk8
      obtain ⟨x0, x1, x2, x3, x4, x5, x6, x7, x8, x9, x10, x11, x12, x13⟩ := cells14 HV4.out.row
      obtain ⟨hr5, hb5⟩ := HR0.out _ _ HV4.out.ps
      have HR5 := Lib.hid hr5
      have HB5 := Lib.hid hb5
      clear hr5 hb5 HR0 HV4
      obtain ⟨y0, y1, y2, y3, y4, y5, y6, y7, y8, y9, y10, y11, y12, y13⟩ := cells14 HR5.out
      obtain ⟨fz0, fz1, fz2, fz3, fz4, fz5, fz6, fz7, fz8, fz9, fz10, fz11, fz12, fz13⟩ := frozen14 HR5.out
      go_wp2_with fail
      (try simp only [Exit.inBlock, Exit.then])
      refine bodyPost_ret (results_cell_row rfl _ _ w.heap.size _ _ (0, 0) _ rfl (stored14 HR5.out) Tryd.underlying27 rfl (by kernel_rfl)) rfl ?_
      have HGR := stored14_grown w4 w.heap.size (.int .i64 (n0 : Int)) (.int .i64 (n1 : Int)) (.int .i64 (n2 : Int)) (.int .i64 (n3 : Int)) (.int .i64 (n4 : Int)) (.int .i64 t0) (.int .i64 t1) (.int .i64 t2) (.int .i64 t3) (.int .i64 h0) (.int .i64 h1) (.int .i64 h2) (.int .i64 h3) (.slice none 0 0)
      rw [HC.out]
      exact ⟨_, 0, 0, rfl, ⟨⟨fun _ => ⟨rfl, rfl⟩, Nat.le_refl _, by decide⟩, rfl, Ls.nil⟩, (fun ad e => by cases e), HB5.out.trans (below_of_grown HGR (Nat.le_refl _) HB5.out.size)⟩
end Go.Proofs.YtcjnhemlkahgoaaDoor
