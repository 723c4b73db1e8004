/-
  The walk of the statement on Check and Length of records.
-/
import Derived.Test.YtgonpmfjfmmfoaaDoorRecAwake
import Derived.Test.YtgonpmfjfmmfoaaDoorRecRefCheck
namespace Go.Proofs.YtgonpmfjfmmfoaaDoor
open Go.RowKit
/-- A block stays as it is, and so does all that was there at first. -/
def Sd (w : World) (r : Nat) (o : Obj) (W : World) : Prop := W.heap[r]? = some o ∧ Below w.heap.size w W
theorem Sd.next {w W W' W'' : World} {r : Nat} {o : Obj} (h : Sd w r o W) (k : Below W'.heap.size W' W'') (e1 : W'.heap = W.heap) (e2 : W'.os = W.os) (e3 : W'.tape = W.tape) (e4 : W'.output = W.output) : Sd w r o W'' := by
  have hlt := (Array.getElem?_eq_some_iff.1 h.1).1
  refine ⟨(k.block r (by rw [e1]; exact hlt)).trans (by rw [e1]; exact h.1), k.os.trans (e2.trans h.2.os), k.tape.trans (e3.trans h.2.tape), k.output.trans (e4.trans h.2.output), ?_, fun b hb => ?_⟩
  · have h1 := k.size
    rw [e1] at h1
    exact Nat.le_trans h.2.size h1
  · have h1 := h.2.size
    rw [k.block b (by rw [e1]; omega), e1]
    exact h.2.block b hb
theorem cells4 {w : World} {g : Nat} {a b c d : Value} {t : TypeId} (h : w.heap[g]? = some (.cells #[a, b, c, d] t (0, 0))) : w.cell? ⟨g, 0, none⟩ = some a ∧ w.cell? ⟨g, 1, none⟩ = some b ∧ w.cell? ⟨g, 2, none⟩ = some c ∧ w.cell? ⟨g, 3, none⟩ = some d := four_cells h
/-- A record's variable, overwritten. -/
theorem sd_stored {w w1 : World} {r : Nat} {a b c d a' b' c' d' : Value} {t : TypeId} (h : Sd w r (.cells #[a, b, c, d] t (0, 0)) w1) (hr : w.heap.size ≤ r) : Sd w r (.cells #[a', b', c', d'] t (0, 0)) ((((w1.setCell ⟨r, 0, none⟩ a').setCell ⟨r, 1, none⟩ b').setCell ⟨r, 2, none⟩ c').setCell ⟨r, 3, none⟩ d') :=
  ⟨stored h.1, h.2.trans (below_of_grown (stored_grown _ _ _ _ _ _) hr h.2.size)⟩
set_option maxHeartbeats 1000000 in
theorem recordcheck_any (v kd x : Int) (A1 A2 : Option Addr) (n1 n2 c1 c2 : Nat) (w : World) (hs1 : SlIs A1 n1 c1) (hs2 : SlIs A2 n2 c2) (ht : Hid (TabW w)) (hz : 0 < w.heap.size) :
    Calls Tryd.prog 3 #[.int .i64 v, .agg #[.int .i64 kd, .slice A1 n1 c1, .slice A2 n2 c2, .int .i64 x]] w fun e w' => e = .returned (.bool true) ∧ Below w.heap.size w w' := by
  obtain ⟨m1, hm1⟩ := min_is n1 260
  obtain ⟨m2, hm2⟩ := min_is n2 200
  have HSH := Lib.hid (fun W => short_any kd x A1 A2 n1 n2 c1 c2 m1 m2 W hs1 hs2 hm1 hm2)
  have HM : Hid (m1 ≤ 260 ∧ m2 ≤ 200) := by
    unfold MinIs at hm1 hm2
    exact ⟨by omega, by omega⟩
  have HINI : Hid (∀ o w1, o = .cells #[.int .i64 kd, .slice A1 n1 c1, .slice A2 n2 c2, .int .i64 x] 24 → Below (w.alloc o).heap.size (w.alloc o) w1 → Sd w w.heap.size (.cells #[.int .i64 kd, .slice A1 n1 c1, .slice A2 n2 c2, .int .i64 x] 24 (0, 0)) w1) := fun o w1 e hb => by
    subst e
    exact ⟨boxed hb, ((Below.refl _ w).alloc (Nat.le_refl _) _).trans (hb.mono (by simp))⟩
  clear hs1 hs2 hm1 hm2
  go_enter Tryd.func3, Tryd.ntmps3
  go_wp2_with fail
  refine (HSH.out _).mono ?_
  rintro e w1 ⟨rfl, hb1⟩
  have HS1 := Lib.hid (HINI.out _ _ rfl hb1); clear hb1
  obtain ⟨z0, z1, z2, z3⟩ := four_cells HS1.out.1
  obtain ⟨f0, f1, f2, f3⟩ := four_frozen HS1.out.1
  have HS2 := Lib.hid (sd_stored (a' := .int .i64 kd) (b' := .slice A1 m1 c1) (c' := .slice A2 m2 c2) (d' := .int .i64 x) HS1.out (Nat.le_refl _))
  go_wp2_with fail
  generalize ((((w1.setCell ⟨w.heap.size, 0, none⟩ (.int .i64 kd)).setCell ⟨w.heap.size, 1, none⟩ (.slice A1 m1 c1)).setCell ⟨w.heap.size, 2, none⟩ (.slice A2 m2 c2)).setCell ⟨w.heap.size, 3, none⟩ (.int .i64 x)) = w2 at *
  clear z0 z1 z2 z3 f0 f1 f2 f3
  obtain ⟨z0, z1, z2, z3⟩ := four_cells HS2.out.1
  have ht2 : Hid (∀ W, W.heap = w2.heap → TabW W ∧ 0 < W.heap.size) := fun W e => ⟨(ht.out.below HS2.out.2 hz).heap e, by rw [e]; exact Nat.lt_of_lt_of_le hz HS2.out.2.size⟩
  go_region_held3 (fun W => W.cell? ⟨w.heap.size, 0, none⟩ = some (.int .i64 kd) ∧ W.cell? ⟨w.heap.size, 1, none⟩ = some (.slice A1 m1 c1) ∧ W.cell? ⟨w.heap.size, 2, none⟩ = some (.slice A2 m2 c2) ∧ W.cell? ⟨w.heap.size, 3, none⟩ = some (.int .i64 x))
    (first
      | go_keep
      | exact cells4 HS3.out.1
      | exact cells4 HS4.out.1
      | exact cells4 HS5.out.1
      | exact cells4 HS6.out.1
      | exact cells4 HS7.out.1)
    (first
      | (go_at_call 11; refine (awake_any _ (ht2.out _ (by rfl)).1 (ht2.out _ (by rfl)).2).mono ?_; rintro e w3 ⟨rfl, hb3⟩; have HS3 := Lib.hid (HS2.out.next hb3 (by rfl) (by rfl) (by rfl) (by rfl)); clear hb3)
      | (go_at_call 12; refine (check_any v kd A1 m1 c1 A2 m2 c2 x _).mono ?_; rintro e w4 ⟨rfl, hb4⟩; have HS4 := Lib.hid (HS3.out.next hb4 (by rfl) (by rfl) (by rfl) (by rfl)); clear hb4)
      | (go_at_call 13; refine (refcheck_any v kd A1 m1 c1 A2 m2 c2 x _).mono ?_; rintro e w5 ⟨rfl, hb5⟩; have HS5 := Lib.hid (HS4.out.next hb5 (by rfl) (by rfl) (by rfl) (by rfl)); clear hb5)
      | (go_at_call 14; refine (length_any kd A1 m1 c1 A2 m2 c2 x _ (by have := HM.out; omega) (by have := HM.out; omega)).mono ?_; rintro e w6 ⟨rfl, hb6⟩; have HS6 := Lib.hid (HS5.out.next hb6 (by rfl) (by rfl) (by rfl) (by rfl)); clear hb6)
      | (go_at_call 15; refine (reflength_any kd A1 m1 c1 A2 m2 c2 x _ (by have := HM.out; omega) (by have := HM.out; omega)).mono ?_; rintro e w7 ⟨rfl, hb7⟩; have HS7 := Lib.hid (HS6.out.next hb7 (by rfl) (by rfl) (by rfl) (by rfl)); clear hb7))
  all_goals
    go_wp2
    go_ret
    exact ⟨rfl, HS7.out.2⟩
end Go.Proofs.YtgonpmfjfmmfoaaDoor
