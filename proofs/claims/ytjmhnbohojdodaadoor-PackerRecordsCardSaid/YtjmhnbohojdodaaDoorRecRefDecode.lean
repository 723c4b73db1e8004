/-
  The walk of the reference's Decode.
-/
import Derived.Test.YtjmhnbohojdodaaDoorRecEncodeLaw
namespace Go.Proofs.YtjmhnbohojdodaaDoor
open Go.RowKit
theorem refdecode_early (v seq off : Int) (A : Option Addr) (n c : Nat) (w : World) (h : ¬ (v = 1 ∨ v = 2) ∨ ¬ Rc.place seq off ∨ n < 16) :
    Calls Tryd.prog 26 #[.int .i64 v, .int .i64 seq, .int .i64 off, .slice A n c] w (NoRec w) := by
  by_cases hv : v = 1 ∨ v = 2
  · have hc : decide (seq < 0) = true ∨ (decide (seq < 0) = false ∧ (decide (off < 0) = true ∨ (decide (off < 0) = false ∧ (decide (2147483647 < off) = true ∨ (decide (2147483647 < off) = false ∧ decide ((n : Int) < 16) = true))))) := by
      have h2 := h.resolve_left (fun e => e hv)
      unfold Rc.place at h2
      simp
      omega
    clear h
    rcases hc with f1 | ⟨f1, f2 | ⟨f2, f3 | ⟨f3, f4⟩⟩⟩
    all_goals
      rcases hv with rfl | rfl
    all_goals
      go_enter Tryd.func26, Tryd.ntmps26
      go_wp2
      (try simp only [Exit.inBlock, Exit.then])
      refine bodyPost_ret (results_row3 rfl _ _ w.heap.size _ _ (0, 0) _ rfl (heap_alloc_new _ _) Tryd.underlying38 rfl (by kernel_rfl)) rfl ?_
      exact ⟨rfl, (Below.refl _ _).alloc (Nat.le_refl _) _⟩
  · have f1 : (v != 1) = true := by rw [bne_iff_ne]; omega
    have f2 : (v != 2) = true := by rw [bne_iff_ne]; omega
    clear h hv
    go_enter Tryd.func26, Tryd.ntmps26
    go_wp2
    (try simp only [Exit.inBlock, Exit.then])
    refine bodyPost_ret (results_row3 rfl _ _ w.heap.size _ _ (0, 0) _ rfl (heap_alloc_new _ _) Tryd.underlying38 rfl (by kernel_rfl)) rfl ?_
    exact ⟨rfl, (Below.refl _ _).alloc (Nat.le_refl _) _⟩
/-- The reference's Num of a part of the bytes. -/
theorem num_part (ad : Addr) (B i m c : Nat) (l : List Nat) (W : World) (hb : Bs W B (some ad) l) (h0 : 0 < i) (hm : m ≤ 8) (hl : i + m ≤ l.length) :
    Calls Tryd.prog 39 #[.slice (some ⟨ad.block, ad.off + i, none⟩) m c] W fun e w' => e = .returned (.int .u64 (Wire.num (Rc.sub l i m) : Int)) ∧ w' = W := by
  have h := ((hb.bsIn.drop i).bs).take m
  rw [Option.map_some, add_pos ad i h0] at h
  exact (refnum_any _ B m c (Rc.sub l i m) W (Rc.sub_length l i m hl) hm h).mono fun _ _ h => ⟨h.1, h.2.symm⟩
theorem byte_at (ad : Addr) (B i : Nat) (l : List Nat) (W : World) (hb : Bs W B (some ad) l) (h0 : 0 < i) (hl : i < l.length) : W.cell? ⟨ad.block, ad.off + i, none⟩ = some (.int .u8 ((l.getD i 0 : Nat) : Int)) := by
  obtain ⟨_, ad', e, _, hc⟩ := hb i hl
  injection e with e
  subst e
  rw [← add_pos ad i h0]; exact hc
theorem wrap_small (q : Nat) (h : q < 9223372036854775808) : IntKind.i64.wrap (q : Int) = (q : Int) := by
  rw [IntKind.wrap_i64]; omega
/-- The second box's second and third field, stored. -/
theorem sd2_set1 {w W : World} {o0 : Obj} {a b c d v : Value} {t : TypeId} (h : Sd2 w o0 (.cells #[a, b, c, d] t (0, 0)) W) : Sd2 w o0 (.cells #[a, v, c, d] t (0, 0)) (W.setCell ⟨w.heap.size + 1, 1, none⟩ v) :=
  ⟨((grown_set W _ _ _).block _ (Array.getElem?_eq_some_iff.1 h.1).1 (fun e => by injection e with e; omega)).trans h.1, by have h1 := h.2.1; simp [World.setCell, Array.getElem?_modify, h1], h.2.2.trans (below_of_grown (grown_set _ _ _ _) (by omega) h.2.2.size)⟩
theorem sd2_set2 {w W : World} {o0 : Obj} {a b c d v : Value} {t : TypeId} (h : Sd2 w o0 (.cells #[a, b, c, d] t (0, 0)) W) : Sd2 w o0 (.cells #[a, b, v, d] t (0, 0)) (W.setCell ⟨w.heap.size + 1, 2, none⟩ v) :=
  ⟨((grown_set W _ _ _).block _ (Array.getElem?_eq_some_iff.1 h.1).1 (fun e => by injection e with e; omega)).trans h.1, by have h1 := h.2.1; simp [World.setCell, Array.getElem?_modify, h1], h.2.2.trans (below_of_grown (grown_set _ _ _ _) (by omega) h.2.2.size)⟩
theorem reflen_any (kd : Int) (A : Option Addr) (n c : Nat) (A' : Option Addr) (n' c' : Nat) (x : Int) (w : World) (hs : n ≤ 140737488355328) (hs' : n' ≤ 140737488355328) :
    Calls Tryd.prog 28 #[.agg #[.int .i64 kd, .slice A n c, .slice A' n' c', .int .i64 x]] w fun e w' => e = .returned (.int .i64 ((16 + n + n' : Nat) : Int)) ∧ Below w.heap.size w w' := by
  go_enter Tryd.func28, Tryd.ntmps28
  go_wp2
  go_ret
  exact ⟨ret_int (by omega), (Below.refl _ _).alloc (Nat.le_refl _) _⟩
end Go.Proofs.YtjmhnbohojdodaaDoor
