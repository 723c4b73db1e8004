/-
  The walk of layer 20's Awake.
-/
import Derived.Test.YtnadbokhcmbcaaaDoorAdWalk
import Derived.Lib.SmallJoins
set_option maxRecDepth 100000
namespace Go.Proofs.YtnadbokhcmbcaaaDoor
open Go.RowKit
theorem ad_lit40 : Ad.err ⟨1, 1, 2, 4⟩ 5 7 3 40 = 0 ∧ Ad.due ⟨1, 1, 2, 4⟩ 5 7 3 40 = 12 := by decide
theorem ad_lit41 : Ad.err ⟨1, 1, 2, 4⟩ 5 7 3 41 = 8 ∧ Ad.due ⟨1, 1, 2, 4⟩ 5 7 3 41 = 0 := by decide
theorem conv_first (w : World) (C : Array Value) (n c : Nat) : (convert 24 24 (.slice (some ⟨w.heap.size, 0, none⟩) n c)).run Tryd.prog (w.alloc (.cells C 5)).drew = .ok (.slice (some ⟨w.heap.size, 0, none⟩) n c) (w.alloc (.cells C 5 (C.size, C.size + 1))).drew :=
  Lib.run_convert_bytes_const (P := Tryd.prog) w.drew 24 5 C n c Tryd.underlying24 Tryd.underlying5
theorem conv_second (w : World) (Z : Obj) (C : Array Value) (n c : Nat) : (convert 24 24 (.slice (some ⟨w.heap.size + 1, 0, none⟩) n c)).run Tryd.prog ((w.alloc Z).alloc (.cells C 5)).drew = .ok (.slice (some ⟨w.heap.size + 1, 0, none⟩) n c) ((w.alloc Z).alloc (.cells C 5 (C.size, C.size + 1))).drew :=
  Go.Joins.run_convert_bytes_const_at (P := Tryd.prog) (w.alloc Z).drew 24 5 C n c (w.heap.size + 1) (by simp) Tryd.underlying24 Tryd.underlying5
theorem modify_mid (a : Array Obj) (x z : Obj) (f : Obj → Obj) : ((a.push x).push z).modify a.size f = (a.push (f x)).push z := by
  apply Array.ext
  · simp
  · intro i h1 h2
    simp only [Array.getElem_modify, Array.getElem_push]
    by_cases h : a.size = i
    · subst h
      simp
    · have hi : i < a.size + 2 := by simp at h1; omega
      by_cases h' : i < a.size
      · simp [h, h', Nat.lt_succ_of_lt h']
      · have e : i = a.size + 1 := by omega
        subst e
        simp
theorem conv_mid (w : World) (Z : Obj) (C : Array Value) (n c : Nat) : (convert 24 24 (.slice (some ⟨w.heap.size, 0, none⟩) n c)).run Tryd.prog ((w.alloc (.cells C 5)).alloc Z).drew = .ok (.slice (some ⟨w.heap.size, 0, none⟩) n c) ((w.alloc (.cells C 5 (C.size, C.size + 1))).alloc Z).drew := by
  have ht := Tryd.underlying24
  have he := Tryd.underlying5
  have hb : ((w.alloc (.cells C 5)).alloc Z).drew.heap[w.heap.size]? = some (.cells C 5) := by
    show ((w.heap.push (.cells C 5)).push Z)[w.heap.size]? = _
    simp [Array.getElem?_push]
  have hsh : ((w.alloc (.cells C 5)).alloc Z).drew.shape? w.heap.size = some (5, C.size) := by
    unfold World.shape?
    rw [hb]
  have hfr : ∀ k : Nat, ((w.alloc (.cells C 5)).alloc Z).drew.freeze ⟨w.heap.size, k, none⟩ 1 = ((w.alloc (.cells C 5 (k, k + 1))).alloc Z).drew := fun k => by
    unfold World.freeze
    rw [if_neg (by decide)]
    show ({ ((w.alloc (.cells C 5)).alloc Z).drew with heap := ((w.heap.push (.cells C 5)).push Z).modify w.heap.size _ } : World) = _
    rw [modify_mid]
    rfl
  simp [convert, run_underlying ht, run_underlying he, markStringish, hsh]
  exact hfr _
theorem ad_sd {w w0 w1 : World} {r : Nat} {o a b : Obj} (h : Sd w r o w0) (k : Below ((w0.alloc a).alloc b).drew.heap.size ((w0.alloc a).alloc b).drew w1) : Sd w r o w1 :=
  ((h.next ((Below.refl _ w0).alloc (Nat.le_refl _) a) rfl rfl rfl rfl).next ((Below.refl _ (w0.alloc a)).alloc (Nat.le_refl _) b) rfl rfl rfl rfl).next k rfl rfl rfl rfl
theorem sd_drawn {w w1 : World} {r : Nat} {o : Obj} (h : Sd w r o w1) (k : Nat) : Sd w r o (w1.drewN k) := ⟨h.1, below_drawn h.2 k⟩
set_option maxHeartbeats 4000000 in
theorem adawake_any (w : World) : Calls Tryd.prog 5 #[] w fun e w' => e = .returned (.bool true) ∧ Below w.heap.size w w' := by
  have C1 : Hid (∀ (A A' : Option Addr) (p p' : Nat) (W : World), Calls Tryd.prog 6 #[.agg #[.int .i64 1, .int .i64 1, .int .i64 2, .int .i64 4], .int .i64 5, .slice A 3 p, .slice A' 40 p', .int .i64 7] W fun r w' => r = .returned (.tuple #[.int .i64 12, .int .i64 0]) ∧ Below W.heap.size W w') := fun A A' p p' W => by
    have h := adcheck_any 1 1 2 4 5 7 A 3 p A' 40 p' W (by decide) (by decide)
    rwa [ad_lit40.1, ad_lit40.2] at h
  have C2 : Hid (∀ (A A' : Option Addr) (p p' : Nat) (W : World), Calls Tryd.prog 6 #[.agg #[.int .i64 1, .int .i64 1, .int .i64 2, .int .i64 4], .int .i64 5, .slice A 3 p, .slice A' 41 p', .int .i64 7] W fun r w' => r = .returned (.tuple #[.int .i64 0, .int .i64 8]) ∧ Below W.heap.size W w') := fun A A' p p' W => by
    have h := adcheck_any 1 1 2 4 5 7 A 3 p A' 41 p' W (by decide) (by decide)
    rwa [ad_lit41.1, ad_lit41.2] at h
  obtain ⟨i0, hi0, hz0, hz1, hz2⟩ := info_parts info_u8
  have h40 := fun (W : World) => run_make (P := Tryd.prog) W 24 5 i0 (.int .u8 0) Tryd.underlying24 hi0 hz0 .i64 .i64 40 40 (by omega) (by omega) (by rw [hz2]; omega) (by omega)
  have h41 := fun (W : World) => run_make (P := Tryd.prog) W 24 5 i0 (.int .u8 0) Tryd.underlying24 hi0 hz0 .i64 .i64 41 41 (by omega) (by omega) (by rw [hz2]; omega) (by omega)
  rw [hz1] at h40 h41
  clear hi0 hz0 hz1 hz2
  have HS0 := Lib.hid (sd_new w #[.int .i64 1, .int .i64 1, .int .i64 2, .int .i64 4] 23)
  go_enter Tryd.func5, Tryd.ntmps5
  go_upto_region 2 with fail
  generalize w.alloc (.cells #[.int .i64 1, .int .i64 1, .int .i64 2, .int .i64 4] 23) = w0 at *
  obtain ⟨z0, z1, z2, z3⟩ := sd_cells4 HS0.out
  go_cut [2, 3] (fun v2 v3 wx => v2 = .int .i64 12 ∧ v3 = .int .i64 0 ∧ Hid (Sd w w.heap.size (.cells #[.int .i64 1, .int .i64 1, .int .i64 2, .int .i64 4] 23 (0, 0)) wx))
  case first =>
    have m1 := fun o : Obj => sd_cells4 (HS0.out.next ((Below.refl _ w0).alloc (Nat.le_refl _) o) rfl rfl rfl rfl)
    have m2 := fun o o' : Obj => sd_cells4 ((HS0.out.next ((Below.refl _ w0).alloc (Nat.le_refl _) o) rfl rfl rfl rfl).next ((Below.refl _ (w0.alloc o)).alloc (Nat.le_refl _) o') rfl rfl rfl rfl)
    have m10 := fun o => (m1 o).1
    have m11 := fun o => (m1 o).2.1
    have m12 := fun o => (m1 o).2.2.1
    have m13 := fun o => (m1 o).2.2.2
    have m20 := fun o o' => (m2 o o').1
    have m21 := fun o o' => (m2 o o').2.1
    have m22 := fun o o' => (m2 o o').2.2.1
    have m23 := fun o o' => (m2 o o').2.2.2
    clear m1 m2
    have k1 := fun C n c => conv_first w0 C n c
    have k2 := fun Z C n c => conv_second w0 Z C n c
    have k3 := fun Z C n c => conv_mid w0 Z C n c
    go_region_with (go_at_call 6; refine (C1.out _ _ _ _ _).mono ?_; rintro e w1 ⟨rfl, hb1⟩; have HSA := Lib.hid (ad_sd HS0.out hb1); clear hb1)
    all_goals
      clear m10 m11 m12 m13 m20 m21 m22 m23 k1 k2 k3 h40 h41
      go_wp2
      go_meet
      exact ⟨rfl, rfl, HSA⟩
  case rest =>
    obtain ⟨rfl, rfl, HS2⟩ := hcut
    generalize wc = w2 at *
    clear z0 z1 z2 z3 HS0 C1
    obtain ⟨z0, z1, z2, z3⟩ := sd_cells4 HS2.out
    go_upto_region 3 with fail
    go_cut [4, 5] (fun v2 v3 wx => v2 = .int .i64 0 ∧ v3 = .int .i64 8 ∧ Hid (Sd w w.heap.size (.cells #[.int .i64 1, .int .i64 1, .int .i64 2, .int .i64 4] 23 (0, 0)) wx))
    case first =>
      have m1 := fun o : Obj => sd_cells4 (HS2.out.next ((Below.refl _ w2).alloc (Nat.le_refl _) o) rfl rfl rfl rfl)
      have m2 := fun o o' : Obj => sd_cells4 ((HS2.out.next ((Below.refl _ w2).alloc (Nat.le_refl _) o) rfl rfl rfl rfl).next ((Below.refl _ (w2.alloc o)).alloc (Nat.le_refl _) o') rfl rfl rfl rfl)
      have m10 := fun o => (m1 o).1
      have m11 := fun o => (m1 o).2.1
      have m12 := fun o => (m1 o).2.2.1
      have m13 := fun o => (m1 o).2.2.2
      have m20 := fun o o' => (m2 o o').1
      have m21 := fun o o' => (m2 o o').2.1
      have m22 := fun o o' => (m2 o o').2.2.1
      have m23 := fun o o' => (m2 o o').2.2.2
      clear m1 m2
      have k1 := fun C n c => conv_first w2 C n c
      have k2 := fun Z C n c => conv_second w2 Z C n c
      have k3 := fun Z C n c => conv_mid w2 Z C n c
      go_region_with (go_at_call 6; refine (C2.out _ _ _ _ _).mono ?_; rintro e w1 ⟨rfl, hb1⟩; have HSA := Lib.hid (ad_sd HS2.out hb1); clear hb1)
      all_goals
        clear m10 m11 m12 m13 m20 m21 m22 m23 k1 k2 k3 h40 h41
        go_wp2
        go_meet
        exact ⟨rfl, rfl, HSA⟩
    case rest =>
      obtain ⟨rfl, rfl, HS3⟩ := hcut
      clear z0 z1 z2 z3 HS2 h40 h41 C2
      have A1 : Hid (∀ W, Calls Tryd.prog 10 #[.bool false, .bool false, .int .i64 0] W fun e w' => e = .returned (.bool true) ∧ w' = W) := fun W => admit_any false false 0 W
      have A2 : Hid (∀ W, Calls Tryd.prog 10 #[.bool true, .bool false, .int .i64 1] W fun e w' => e = .returned (.bool false) ∧ w' = W) := fun W => admit_any true false 1 W
      go_wp2_with (go_at_call 10; first
        | (with_reducible refine (A1.out _).mono ?_; rintro e w3 ⟨rfl, rfl⟩)
        | (with_reducible refine (A2.out _).mono ?_; rintro e w3 ⟨rfl, rfl⟩))
      go_ret
      exact ⟨rfl, HS3.out.2⟩
end Go.Proofs.YtnadbokhcmbcaaaDoor
