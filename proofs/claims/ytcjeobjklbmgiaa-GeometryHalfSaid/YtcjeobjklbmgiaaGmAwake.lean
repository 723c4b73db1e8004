/-
  The walk of layer 12's Awake.
-/
import Derived.Test.YtcjeobjklbmgiaaGmOver
import Derived.OwnWalk
import Derived.IntWalk
set_option maxRecDepth 100000
namespace Go.Proofs.Ytcjeobjklbmgiaa
open Go.RowKit
theorem sd_drew {w W : World} {g : Nat} {o : Obj} (h : Sd w g o W) : Sd w g o W.drew := ⟨h.1, below_drawn h.2 1⟩
/-- Two layouts in boxes of their own. -/
def TwoAt (w : World) (o1 o2 : Obj) (g1 g2 : Nat) (W : World) : Prop := W.heap[g1]? = some o1 ∧ W.heap[g2]? = some o2 ∧ Below w.heap.size w W
theorem two_next {w W W' : World} {o1 o2 : Obj} {g1 g2 : Nat} (h : TwoAt w o1 o2 g1 g2 W) (k : Below W.heap.size W W') : TwoAt w o1 o2 g1 g2 W' :=
  ⟨(k.block _ (Array.getElem?_eq_some_iff.1 h.1).1).trans h.1, (k.block _ (Array.getElem?_eq_some_iff.1 h.2.1).1).trans h.2.1, h.2.2.trans (k.mono h.2.2.size)⟩
theorem sd_over {w w1 : World} {r g j : Nat} {o : Obj} {v : Value} (h : Sd w r o w1) (hr : r ≠ g) (hw : w.heap.size ≤ g) : Sd w r o (w1.setCell ⟨g, j, none⟩ v) :=
  ⟨((grown_set _ _ _ _).block _ h.lt (fun e => hr (by injection e))).trans h.1, h.2.trans (below_of_grown (grown_set _ _ _ _) hw h.2.size)⟩
theorem gm_mod (x K : Int) (hK : 4 ≤ K ∧ K ≤ 16) : ∃ j : Nat, (j : Int) < K ∧ (wrap64 (x.tmod K + K)).tmod K = (j : Int) := by
  have h2 : x.tmod K < K := Int.tmod_lt_of_pos x (by omega)
  have h3 : -K < x.tmod K := Int.lt_tmod_of_pos x (by omega)
  have h4 : wrap64 (x.tmod K + K) = x.tmod K + K := IntWalk.wrap64_in _ ⟨by omega, by omega⟩
  have h5 : 0 ≤ (x.tmod K + K).tmod K := Int.tmod_nonneg _ (by omega)
  have h6 : (x.tmod K + K).tmod K < K := Int.tmod_lt_of_pos _ (by omega)
  refine ⟨((x.tmod K + K).tmod K).toNat, by omega, ?_⟩
  rw [h4]
  omega
theorem sd_made {w W : World} {g : Nat} {o o' : Obj} (h : Sd w g o W) : Sd w g o (W.alloc o') := h.next ((Below.refl _ W).alloc (Nat.le_refl _) _) rfl rfl rfl rfl
set_option maxHeartbeats 4000000 in
theorem gmawake_any (w : World) : Calls Try.prog 11 #[] w fun r w' => r = .returned (.bool true) ∧ Below w.heap.size w w' := by
  have C1 : Hid (∀ W, Calls Try.prog 14 #[.agg #[.int .i64 1, .int .i64 1, .int .i64 4, .int .i64 4], .int .i64 1, .agg #[.int .i64 2, .int .i64 1, .int .i64 2, .int .i64 8], .int .i64 2] W fun r w' => r = .returned (.bool true) ∧ Below W.heap.size W w') := fun W => by
    have h := gmover_any 1 1 4 4 1 2 1 2 8 2 W
    rwa [show decide (Gm.over ⟨1, 1, 4, 4⟩ 1 ⟨2, 1, 2, 8⟩ 2) = true by decide] at h
  have C2 : Hid (∀ W, Calls Try.prog 14 #[.agg #[.int .i64 1, .int .i64 1, .int .i64 4, .int .i64 4], .int .i64 1, .agg #[.int .i64 2, .int .i64 1, .int .i64 2, .int .i64 8], .int .i64 3] W fun r w' => r = .returned (.bool true) ∧ Below W.heap.size W w') := fun W => by
    have h := gmover_any 1 1 4 4 1 2 1 2 8 3 W
    rwa [show decide (Gm.over ⟨1, 1, 4, 4⟩ 1 ⟨2, 1, 2, 8⟩ 3) = true by decide] at h
  have C3 : Hid (∀ W, Calls Try.prog 14 #[.agg #[.int .i64 1, .int .i64 1, .int .i64 4, .int .i64 4], .int .i64 1, .agg #[.int .i64 2, .int .i64 1, .int .i64 2, .int .i64 8], .int .i64 4] W fun r w' => r = .returned (.bool false) ∧ Below W.heap.size W w') := fun W => by
    have h := gmover_any 1 1 4 4 1 2 1 2 8 4 W
    rwa [show decide (Gm.over ⟨1, 1, 4, 4⟩ 1 ⟨2, 1, 2, 8⟩ 4) = false by decide] at h
  have C4 : Hid (∀ W, Calls Try.prog 9 #[.agg #[.int .i64 1, .int .i64 1, .int .i64 4, .int .i64 4], .int .i64 1] W fun r w' => r = .returned (.int .i64 78) ∧ Below W.heap.size W w') := fun W => by
    have h := gmfirst_any 1 1 4 4 1 W
    rwa [show Gm.first ⟨1, 1, 4, 4⟩ 1 = 78 by decide] at h
  have C5 : Hid (∀ W, Calls Try.prog 12 #[.agg #[.int .i64 1, .int .i64 1, .int .i64 4, .int .i64 4]] W fun r w' => r = .returned (.int .i64 177) ∧ Below W.heap.size W w') := fun W => by
    have h := gmcap_any 1 1 4 4 W
    rwa [show Gm.cap ⟨1, 1, 4, 4⟩ = 177 by decide] at h
  have HS0 := Lib.hid (sd2_new w #[.int .i64 1, .int .i64 1, .int .i64 4, .int .i64 4] #[.int .i64 2, .int .i64 1, .int .i64 2, .int .i64 8] 23 23)
  go_enter Try.func11, Try.ntmps11
  go_upto_region 2 with fail
  generalize (w.alloc (.cells #[.int .i64 1, .int .i64 1, .int .i64 4, .int .i64 4] 23)).alloc (.cells #[.int .i64 2, .int .i64 1, .int .i64 2, .int .i64 8] 23) = w0 at *
  obtain ⟨x0, x1, x2, x3⟩ := four_cells HS0.out.1
  obtain ⟨y0, y1, y2, y3⟩ := four_cells HS0.out.2.1
  go_wp2_with fail
  refine (C1.out _).mono ?_
  rintro r w1 ⟨rfl, hb1⟩
  have HS1 := Lib.hid (HS0.out.next hb1 (by rfl) (by rfl) (by rfl) (by rfl))
  clear hb1 x0 x1 x2 x3 y0 y1 y2 y3 HS0
  obtain ⟨x0, x1, x2, x3⟩ := four_cells HS1.out.1
  obtain ⟨y0, y1, y2, y3⟩ := four_cells HS1.out.2.1
  go_wp2_with fail
  refine (C2.out _).mono ?_
  rintro r w2 ⟨rfl, hb2⟩
  have HS2 := Lib.hid (HS1.out.next hb2 (by rfl) (by rfl) (by rfl) (by rfl))
  clear hb2 x0 x1 x2 x3 y0 y1 y2 y3 HS1
  obtain ⟨x0, x1, x2, x3⟩ := four_cells HS2.out.1
  obtain ⟨y0, y1, y2, y3⟩ := four_cells HS2.out.2.1
  go_wp2_with fail
  refine (C3.out _).mono ?_
  rintro r w3 ⟨rfl, hb3⟩
  have HS3 := Lib.hid (HS2.out.next hb3 (by rfl) (by rfl) (by rfl) (by rfl))
  clear hb3 x0 x1 x2 x3 y0 y1 y2 y3 HS2
  obtain ⟨x0, x1, x2, x3⟩ := four_cells HS3.out.1
  go_wp2_with fail
  refine (C4.out _).mono ?_
  rintro r w4 ⟨rfl, hb4⟩
  have HS4 := Lib.hid (HS3.out.next hb4 (by rfl) (by rfl) (by rfl) (by rfl))
  clear hb4 x0 x1 x2 x3 HS3
  obtain ⟨x0, x1, x2, x3⟩ := four_cells HS4.out.1
  go_wp2_with fail
  refine (C5.out _).mono ?_
  rintro r w5 ⟨rfl, hb5⟩
  have HS5 := Lib.hid (HS4.out.next hb5 (by rfl) (by rfl) (by rfl) (by rfl))
  clear hb5 x0 x1 x2 x3 HS4
  go_wp2_with fail
  go_ret
  exact ⟨rfl, HS5.out.2.2⟩
end Go.Proofs.Ytcjeobjklbmgiaa
