/-
  The walk of the law LogSector.
-/
import Derived.Test.YtpidbakjpfngnaaDoorLgFacts
set_option maxRecDepth 100000
namespace Go.Proofs.YtpidbakjpfngnaaDoor
open Go.RowKit
set_option maxHeartbeats 4000000 in
theorem logsector_any (m i o : Int) (w : World) (hm2 : m ≤ 9223372036854775807) (hm1 : -9223372036854775808 ≤ m) (ht : Hid (Tabs w)) :
    Calls Tryd.prog 3 #[.int .i64 m, .int .i64 i, .int .i64 o] w fun r w' => r = .returned (.bool true) ∧ Below w.heap.size w w' := by
  have C1 := Lib.hid (fun W => lgsector_any m i W)
  have C2 := Lib.hid (fun W => lgsector_any m o W)
  have C3 := Lib.hid (fun W => lgsector_any (m + 1) i W)
  have D1 := Lib.hid (fun W => reflgsector_any m i W)
  have D2 := Lib.hid (fun W => reflgsector_any m o W)
  have HA := Lib.hid (lgawake_any w ht)
  have HF1 : Hid ((1 ≤ m ∧ 0 ≤ i ∧ i < 36) → 0 ≤ Lg.sector m i) := fun h => by have := Lg.sector_range h; omega
  have HF2 : Hid ((1 ≤ m ∧ 0 ≤ o ∧ o < 36) → 0 ≤ Lg.sector m o) := fun h => by have := Lg.sector_range h; omega
  have HG1 : Hid (¬ (1 ≤ m ∧ 0 ≤ i ∧ i < 36) → Lg.sector m i = -1) := Lg.sector_out
  have HG2 : Hid (¬ (1 ≤ m ∧ 0 ≤ o ∧ o < 36) → Lg.sector m o = -1) := Lg.sector_out
  have HS : Hid ((1 ≤ m ∧ 0 ≤ i ∧ i < 36) → (1 ≤ m ∧ 0 ≤ o ∧ o < 36) → (Lg.sector m i = Lg.sector m o ↔ i = o) ∧ Lg.sector (m + 1) i ≠ Lg.sector m o) := fun h k => ⟨Lg.sector_same h k, Lg.sector_apart h k⟩
  clear ht
  generalize Lg.sector m i = a at *
  generalize Lg.sector m o = b at *
  generalize Lg.sector (m + 1) i = d at *
  have na : (a != a) = false := by simp
  have nb : (b != b) = false := by simp
  go_enter Tryd.func3, Tryd.ntmps3
  go_wp2_with fail
  refine (C1.out _).mono ?_
  rintro r w1 ⟨rfl, rfl⟩
  go_wp2_with fail
  refine (C2.out _).mono ?_
  rintro r w1 ⟨rfl, rfl⟩
  go_wp2_with fail
  refine (D1.out _).mono ?_
  rintro r w1 ⟨rfl, rfl⟩
  go_wp2_with fail
  refine (D2.out _).mono ?_
  rintro r w1 ⟨rfl, rfl⟩
  clear C1 C2 D1 D2
  by_cases h1 : 1 ≤ m ∧ 0 ≤ i ∧ i < 36
  · have p1 : decide (a < 0) = false := decide_eq_false (by have := HF1.out h1; omega)
    by_cases h2 : 1 ≤ m ∧ 0 ≤ o ∧ o < 36
    · have p2 : decide (b < 0) = false := decide_eq_false (by have := HF2.out h2; omega)
      obtain ⟨q1, q2⟩ := HS.out h1 h2
      clear h1 h2 HF1 HF2 HG1 HG2 HS
      by_cases h3 : m = 9223372036854775807
      · have p3 : (m == 9223372036854775807) = true := by rw [h3]; rfl
        clear h3 q1 q2 hm1 hm2
        go_wp2_with fail
        refine HA.out.mono ?_
        rintro r w5 ⟨rfl, hb⟩
        go_wp2_with fail
        go_ret
        exact ⟨rfl, hb⟩
      · have p3 : (m == 9223372036854775807) = false := beq_eq_false_iff_ne.2 h3
        have p4 : ((a == b) == (i == o)) = true := by
          by_cases e : i = o
          · rw [q1.2 e, e]; simp
          · rw [beq_eq_false_iff_ne.2 e, beq_eq_false_iff_ne.2 (fun h => e (q1.1 h))]; rfl
        have p5 : (d != b) = true := by rw [bne_iff_ne]; exact q2
        have hm3 : m ≤ 9223372036854775806 := by omega
        clear h3 q1 q2 hm2
        go_wp2_with fail
        refine HA.out.mono ?_
        rintro r w5 ⟨rfl, hb⟩
        go_wp2_with fail
        refine (C3.out _).mono ?_
        rintro r w6 ⟨rfl, rfl⟩
        go_wp2_with fail
        go_ret
        exact ⟨rfl, hb⟩
    · have p2 : decide (b < 0) = true := decide_eq_true (by have := HG2.out h2; omega)
      clear h1 h2 HF1 HF2 HG1 HG2 HS hm1 hm2
      go_wp2_with fail
      refine HA.out.mono ?_
      rintro r w5 ⟨rfl, hb⟩
      go_wp2_with fail
      go_ret
      exact ⟨rfl, hb⟩
  · have p1 : decide (a < 0) = true := decide_eq_true (by have := HG1.out h1; omega)
    clear h1 HF1 HF2 HG1 HG2 HS hm1 hm2
    go_wp2_with fail
    refine HA.out.mono ?_
    rintro r w5 ⟨rfl, hb⟩
    go_wp2_with fail
    go_ret
    exact ⟨rfl, hb⟩
end Go.Proofs.YtpidbakjpfngnaaDoor
