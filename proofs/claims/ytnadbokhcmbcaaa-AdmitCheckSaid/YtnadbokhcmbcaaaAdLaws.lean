/-
  The walks of the laws AdmitRule and AdmitCheck.
-/
import Derived.Test.YtnadbokhcmbcaaaAdAwake
set_option maxRecDepth 100000
namespace Go.Proofs.Ytnadbokhcmbcaaa
open Go.RowKit
theorem admitrule_any (ev pr : Bool) (k : Int) (w : World) :
    Calls Try.prog 4 #[.bool ev, .bool pr, .int .i64 k] w fun e w' => e = .returned (.bool true) ∧ Below w.heap.size w w' := by
  have CA := Lib.hid (fun W => adawake_any W)
  have CM := Lib.hid (fun W => admit_any ev pr k W)
  cases hk : decide (2 ≤ k) <;> cases ev <;> cases pr
  all_goals
    rw [hk] at CM
    go_enter Try.func4, Try.ntmps4
    go_wp2_with fail
    refine (CA.out _).mono ?_
    rintro e w1 ⟨rfl, hb1⟩
    have HB := Lib.hid hb1
    clear hb1
    go_wp2_with fail
    refine (CM.out _).mono ?_
    rintro e w2 ⟨rfl, rfl⟩
    go_wp2
    go_ret
    exact ⟨rfl, HB.out⟩
theorem rq8 {w W : World} {g : Nat} {a0 a1 a2 a3 a4 a5 a6 a7 : Value} {t : TypeId} (h : Sd w g (.cells #[a0, a1, a2, a3, a4, a5, a6, a7] t (0, 0)) W) :
    W.cell? ⟨g, 0, none⟩ = some a0 ∧ W.cell? ⟨g, 1, none⟩ = some a1 ∧ W.cell? ⟨g, 2, none⟩ = some a2 ∧ W.cell? ⟨g, 3, none⟩ = some a3 ∧ W.cell? ⟨g, 4, none⟩ = some a4 ∧ W.cell? ⟨g, 5, none⟩ = some a5 ∧ W.cell? ⟨g, 6, none⟩ = some a6 ∧ W.cell? ⟨g, 7, none⟩ = some a7 := by
  have h := h.1
  refine ⟨?_, ?_, ?_, ?_, ?_, ?_, ?_, ?_⟩
  · rw [cell_of_row W g 0 _ t (0, 0) h]; rfl
  · rw [cell_of_row W g 1 _ t (0, 0) h]; rfl
  · rw [cell_of_row W g 2 _ t (0, 0) h]; rfl
  · rw [cell_of_row W g 3 _ t (0, 0) h]; rfl
  · rw [cell_of_row W g 4 _ t (0, 0) h]; rfl
  · rw [cell_of_row W g 5 _ t (0, 0) h]; rfl
  · rw [cell_of_row W g 6 _ t (0, 0) h]; rfl
  · rw [cell_of_row W g 7 _ t (0, 0) h]; rfl
theorem sd_drew {w w1 : World} {r : Nat} {o : Obj} (h : Sd w r o w1) : Sd w r o w1.drew := ⟨h.1, below_drawn h.2 1⟩
set_option maxHeartbeats 4000000 in
theorem admitcheck_any (a b c d now ttl : Int) (A : Option Addr) (n p : Nat) (A' : Option Addr) (n' p' : Nat) (w : World) (hs : SlIs A n p) (hs' : SlIs A' n' p') :
    Calls Try.prog 3 #[.agg #[.int .i64 a, .int .i64 b, .int .i64 c, .int .i64 d, .int .i64 now, .int .i64 ttl, .slice A n p, .slice A' n' p']] w fun e w' => e = .returned (.bool true) ∧ Below w.heap.size w w' := by
  obtain ⟨-, b1, b2⟩ := hs
  obtain ⟨-, b3, b4⟩ := hs'
  obtain ⟨m, h1⟩ := min_is n 260
  obtain ⟨m', h2⟩ := min_is n' 66000
  have hm : m ≤ 260 := by unfold MinIs at h1; omega
  have hm' : m' ≤ 66000 := by unfold MinIs at h2; omega
  have CC := Lib.hid (fun W => adcheck_any a b c d now ttl A m p A' m' p' W (by omega) (by omega))
  have CR := Lib.hid (fun W => refadcheck_any a b c d now ttl A m p A' m' p' W (by omega) (by omega))
  have CA := Lib.hid (fun W => adawake_any W)
  generalize Ad.due ⟨a, b, c, d⟩ now ttl m m' = x at *
  generalize Ad.err ⟨a, b, c, d⟩ now ttl m m' = y at *
  have HS0 := Lib.hid (sd_new w #[.int .i64 a, .int .i64 b, .int .i64 c, .int .i64 d, .int .i64 now, .int .i64 ttl, .slice A m p, .slice A' m' p'] 26)
  clear hm hm'
  rcases h1 with ⟨i1, rfl⟩ | ⟨i1, rfl⟩
  all_goals
    rcases h2 with ⟨i2, rfl⟩ | ⟨i2, rfl⟩
  all_goals
    go_enter Try.func3, Try.ntmps3
    go_wp2
    go_region
    have HS1 := Lib.hid (sd_drew HS0.out)
    clear HS0
    generalize (w.alloc (.cells #[.int .i64 a, .int .i64 b, .int .i64 c, .int .i64 d, .int .i64 now, .int .i64 ttl, .slice A _ p, .slice A' _ p'] 26)).drew = w1 at *
    obtain ⟨z0, z1, z2, z3, z4, z5, z6, z7⟩ := rq8 HS1.out
    go_wp2_with fail
    refine (CC.out _).mono ?_
    rintro e w2 ⟨rfl, hb2⟩
    have HS2 := Lib.hid (HS1.out.next hb2 (by rfl) (by rfl) (by rfl) (by rfl))
    clear hb2 z0 z1 z2 z3 z4 z5 z6 z7 HS1
    obtain ⟨z0, z1, z2, z3, z4, z5, z6, z7⟩ := rq8 HS2.out
    go_wp2_with fail
    refine (CR.out _).mono ?_
    rintro e w3 ⟨rfl, hb3⟩
    have HS3 := Lib.hid (HS2.out.next hb3 (by rfl) (by rfl) (by rfl) (by rfl))
    clear hb3 z0 z1 z2 z3 z4 z5 z6 z7 HS2
    go_wp2_with fail
    refine (CA.out _).mono ?_
    rintro e w4 ⟨rfl, hb4⟩
    have HS4 := Lib.hid (HS3.out.next hb4 (by rfl) (by rfl) (by rfl) (by rfl))
    clear hb4 HS3
    go_wp2
    go_ret
    exact ⟨rfl, HS4.out.2⟩
end Go.Proofs.Ytnadbokhcmbcaaa
