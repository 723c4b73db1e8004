/-
  The walk of the statement on a record of which the end is missing.
-/
import Derived.Test.YtciaiaacboodeaaDoorRecLengths
namespace Go.Proofs.YtciaiaacboodeaaDoor
open Go.RowKit
/-- Two blocks stay as they are, and so does all that was there at first. -/
def Sd2 (w : World) (o0 o1 : Obj) (W : World) : Prop := W.heap[w.heap.size]? = some o0 ∧ W.heap[w.heap.size + 1]? = some o1 ∧ Below w.heap.size w W
theorem Sd2.next {w W W' W'' : World} {o0 o1 : Obj} (h : Sd2 w o0 o1 W) (k : Below W'.heap.size W' W'') (e1 : W'.heap = W.heap) (e2 : W'.os = W.os) (e3 : W'.tape = W.tape) (e4 : W'.output = W.output) : Sd2 w o0 o1 W'' := by
  have a : Sd w w.heap.size o0 W'' := Sd.next ⟨h.1, h.2.2⟩ k e1 e2 e3 e4
  have b : Sd w (w.heap.size + 1) o1 W'' := Sd.next ⟨h.2.1, h.2.2⟩ k e1 e2 e3 e4
  exact ⟨a.1, b.1, a.2⟩
theorem Sd2.drawn {w W : World} {o0 o1 : Obj} (h : Sd2 w o0 o1 W) (k : Nat) : Sd2 w o0 o1 (W.drewN k) := ⟨h.1, h.2.1, below_drawn h.2.2 k⟩
theorem sd2_box {w w1 : World} {o0 o1 : Obj} {a b c a' b' c' d' : Value} {t t' : TypeId} (e0 : o0 = .cells #[a, b, c] t) (e1 : o1 = .cells #[a', b', c', d'] t') (hb : Below ((w.alloc o0).alloc o1).heap.size ((w.alloc o0).alloc o1) w1) : Sd2 w (.cells #[a, b, c] t (0, 0)) (.cells #[a', b', c', d'] t' (0, 0)) w1 := by
  subst e0 e1
  have hs : (w.alloc (.cells #[a, b, c] t)).heap.size = w.heap.size + 1 := by simp
  refine ⟨(hb.block _ (by simp; omega)).trans ((heap_alloc_old _ _ (by simp)).trans (heap_alloc_new w _)), ?_, (((Below.refl _ w).alloc (Nat.le_refl _) _).alloc (by simp) _).trans (hb.mono (by simp; omega))⟩
  exact (hb.block _ (by simp)).trans (alloc_at hs.symm)
theorem sd2_stored {w w1 : World} {o0 : Obj} {a b c d a' b' c' d' : Value} {t : TypeId} (h : Sd2 w o0 (.cells #[a, b, c, d] t (0, 0)) w1) :
    Sd2 w o0 (.cells #[a', b', c', d'] t (0, 0)) ((((w1.setCell ⟨w.heap.size + 1, 0, none⟩ a').setCell ⟨w.heap.size + 1, 1, none⟩ b').setCell ⟨w.heap.size + 1, 2, none⟩ c').setCell ⟨w.heap.size + 1, 3, none⟩ d') :=
  ⟨((stored_grown w1 (w.heap.size + 1) a' b' c' d').block _ (Array.getElem?_eq_some_iff.1 h.1).1 (fun e => by injection e with e; omega)).trans h.1, stored h.2.1, h.2.2.trans (below_of_grown (stored_grown _ _ _ _ _ _) (by omega) h.2.2.size)⟩
theorem three_cells {w : World} {g : Nat} {a b c : Value} {t : TypeId} (h : w.heap[g]? = some (.cells #[a, b, c] t (0, 0))) :
    w.cell? ⟨g, 0, none⟩ = some a ∧ w.cell? ⟨g, 1, none⟩ = some b ∧ w.cell? ⟨g, 2, none⟩ = some c := by
  refine ⟨?_, ?_, ?_⟩
  · rw [cell_of_row w g 0 _ t (0, 0) h]; rfl
  · rw [cell_of_row w g 1 _ t (0, 0) h]; rfl
  · rw [cell_of_row w g 2 _ t (0, 0) h]; rfl
theorem stored_far {w : World} {r g : Nat} {o : Obj} {a b c d : Value} (h : w.heap[g]? = some o) (hne : g < r) : ((((w.setCell ⟨r, 0, none⟩ a).setCell ⟨r, 1, none⟩ b).setCell ⟨r, 2, none⟩ c).setCell ⟨r, 3, none⟩ d).heap[g]? = some o :=
  ((stored_grown w r a b c d).block g (Array.getElem?_eq_some_iff.1 h).1 (fun e => by injection e with e; omega)).trans h
/-- The zero record is the zero record. -/
theorem zeq_any (w : World) : Calls Tryd.prog 11 #[.agg #[.int .i64 0, .slice none 0 0, .slice none 0 0, .int .i64 0], .agg #[.int .i64 0, .slice none 0 0, .slice none 0 0, .int .i64 0]] w fun e w' => e = .returned (.bool true) ∧ Below w.heap.size w w' := by
  have hnil : ∀ B, ([] : List Nat).length = 0 ∧ Bs w B none [] := fun B => ⟨rfl, fun k hk => absurd hk (by simp)⟩
  have h := receq_any 0 0 0 0 none none none none 0 0 0 0 0 0 0 0 0 0 [] [] [] [] w (Nat.zero_le _) (Nat.zero_le _) (hnil 0) (hnil 0) (hnil 0) (hnil 0) ⟨by omega, by omega, by omega, by omega⟩
  rwa [Rc.same_self] at h
/-- '(n%L + L) % L' as the walk writes it. -/
theorem wrap_mod (n : Int) (L : Nat) (h : 0 < L) (hL : L ≤ 70368744177664) : ∃ (t : Int) (m : Nat), n.tmod (L : Int) = t ∧ -(L : Int) < t ∧ t < (L : Int) ∧ (t + (L : Int)).tmod (L : Int) = (m : Int) ∧ m < L := by
  have h1 : (n.tmod (L : Int)).natAbs = n.natAbs % L := Int.natAbs_tmod n L
  have h2 := Nat.mod_lt n.natAbs h
  have h3 : 0 ≤ n.tmod (L : Int) + (L : Int) := by omega
  refine ⟨_, ((n.tmod (L : Int) + (L : Int)) % (L : Int)).toNat, rfl, by omega, by omega, ?_, ?_⟩
  · rw [Int.tmod_eq_emod_of_nonneg h3]
    have := Int.emod_nonneg (n.tmod (L : Int) + (L : Int)) (show (L : Int) ≠ 0 by omega)
    omega
  · have h4 := Int.emod_lt_of_pos (n.tmod (L : Int) + (L : Int)) (show (0 : Int) < (L : Int) by omega)
    have := Int.emod_nonneg (n.tmod (L : Int) + (L : Int)) (show (L : Int) ≠ 0 by omega)
    omega
end Go.Proofs.YtciaiaacboodeaaDoor
