/-
  The walk of the reference's Sectors and Ints.
-/
import Derived.Test.YtmkilbogdenljaaGmFree
import Derived.Test.YtmkilbogdenljaaRefInts
set_option maxRecDepth 100000
namespace Go.Proofs.Ytmkilbogdenljaa
open Go.RowKit
/-- What Sectors returns for a slot that there is: a row of its own. -/
def SecsHas (w : World) (l : List Int) (n : Nat) (r : Ending) (w' : World) : Prop := ∃ g c, r = .returned (.slice (some ⟨g, 0, none⟩) n c) ∧ SlIs (some ⟨g, 0, none⟩) n c ∧ Arr intS w' w.heap.size w'.heap.size (some ⟨g, 0, none⟩) l ∧ Below w.heap.size w w'
set_option maxHeartbeats 2000000 in
theorem refsecs_has (a b c d s : Int) (N : Nat) (hN : c = (N : Int)) (w : World) (hh : Gm.has ⟨a, b, c, d⟩ s) :
    Calls Try.prog 40 #[.agg #[.int .i64 a, .int .i64 b, .int .i64 c, .int .i64 d], .int .i64 s] w (SecsHas w (Gm.secs ⟨a, b, c, d⟩ s N) N) := by
  have CF := Lib.hid (fun W => refsbform_any a b c d W)
  rw [decide_eq_true hh.1] at CF
  have HS0 := Lib.hid (sd_new w #[.int .i64 a, .int .i64 b, .int .i64 c, .int .i64 d] 23)
  have h4 := Gm.form_nums hh.1
  have h5 := Gm.spot_small hh.1 hh.2.1 (Int.le_of_lt hh.2.2)
  have h6 := hh.2
  simp only at h4 h5 h6
  have d1 : decide (s < 0) = false := decide_eq_false (by omega)
  have d2 : decide (d ≤ s) = false := decide_eq_false (by omega)
  subst hN
  have HN : Hid (2 ≤ N ∧ N ≤ 2048) := ⟨by omega, by omega⟩
  have HX : Hid (∀ k : Nat, Gm.secs ⟨a, b, (N : Int), d⟩ s (k + 1) = Gm.secs ⟨a, b, (N : Int), d⟩ s k ++ [74 + s * (N : Int) + (k : Int)]) := Gm.secs_next _ _
  have HZ : Hid (Gm.secs ⟨a, b, (N : Int), d⟩ s 0 = []) := rfl
  have m1 : wrap64 (s * (N : Int)) = s * (N : Int) := by unfold wrap64; omega
  have m2 : wrap64 (74 + s * (N : Int)) = 74 + s * (N : Int) := by unfold wrap64; omega
  have M3 : Hid (∀ k : Nat, k < N → wrap64 (74 + s * (N : Int) + (k : Int)) = 74 + s * (N : Int) + (k : Int)) := fun k hk => by unfold wrap64; omega
  unfold SecsHas
  generalize Gm.secs ⟨a, b, (N : Int), d⟩ s = sc at *
  clear hh h4 h5 h6
  go_enter Try.func40, Try.ntmps40
  go_upto_region 2 with fail
  generalize w.alloc (.cells #[.int .i64 a, .int .i64 b, .int .i64 (N : Int), .int .i64 d] 23) = w0 at *
  obtain ⟨z0, z1, z2, z3⟩ := four_cells HS0.out.1
  go_wp2_with fail
  refine (CF.out _).mono ?_
  rintro r w1 ⟨rfl, hb1⟩
  have HS1 := Lib.hid (HS0.out.next hb1 (by rfl) (by rfl) (by rfl) (by rfl))
  clear hb1 z0 z1 z2 z3 HS0
  obtain ⟨z0, z1, z2, z3⟩ := four_cells HS1.out.1
  go_wp2_with fail
  go_loopw [5, 6] (fun rv iv wr => ∃ k : Nat, k ≤ N ∧ iv = .int .i64 (k : Int) ∧ Hid (ARow intS 3 wr (w.heap.size + 1) rv k (sc k)) ∧ Hid (Sd w w.heap.size (.cells #[.int .i64 a, .int .i64 b, .int .i64 (N : Int), .int .i64 d] 23 (0, 0)) wr)) (fun _ i _ => N - (Go.RowKit.intOf i).toNat)
  case atStart => exact ⟨0, Nat.zero_le _, rfl, by rw [HZ.out]; exact ARow.nil _ _, HS1.out⟩
  case round =>
    obtain ⟨k, hk, rfl, hrow, hsd⟩ := hrel
    have hN2 := HN.out.2
    by_cases hlt : k < N
    · have m3 := M3.out k hlt
      have HNK := Lib.hid (HX.out k)
      obtain ⟨y0, y1, y2, y3⟩ := four_cells hsd.out.1
      have HR2 := Lib.hid (hrow.out.made (.cells #[.int .i64 (74 + s * (N : Int) + (k : Int))] 3))
      have HB3 : Hid (Sd w w.heap.size _ (wr.alloc (.cells #[.int .i64 (74 + s * (N : Int) + (k : Int))] 3))) := hsd.out.next ((Below.refl _ wr).alloc (Nat.le_refl _) _) rfl rfl rfl rfl
      have HG3 : Hid ((wr.alloc (.cells #[.int .i64 (74 + s * (N : Int) + (k : Int))] 3)).heap[wr.heap.size]? = some (.cells #[.int .i64 (74 + s * (N : Int) + (k : Int))] 3 (0, 0))) := heap_alloc_new _ _
      go_wp2_with (at_builtin; refine wpList_append_int rfl (.tmp 26) (.tmp 34) rfl (w.heap.size + 1) k wr.heap.size 1 _ _ (74 + s * (N : Int) + (k : Int)) rfl HR2.out rfl HG3.out (by omega) HB3.out.lt ?_; intro v4 w4 hr4 hb4)
      have HR4 := Lib.hid hr4
      have HS4 : Hid (Sd w w.heap.size _ w4) := ⟨block_next HB3.out.1 hb4 (Nat.lt_succ_self _), HB3.out.2.trans (hb4.mono (Nat.le_succ _))⟩
      clear hr4 hb4
      go_wp2_with fail
      go_roundw
      case rel => exact ⟨k + 1, by omega, by go_num, by rw [HNK.out]; exact HR4, HS4.out⟩
      case measure => simp [Go.RowKit.intOf]; omega
    · obtain rfl : k = N := by omega
      obtain ⟨y0, y1, y2, y3⟩ := four_cells hsd.out.1
      obtain ⟨g, cp, rfl, hc, ha⟩ := hrow.out.box (by have := HN.out.1; omega)
      obtain ⟨_, _, e, hs, -⟩ := hrow.out.open_
      injection e with e1 e2 e3
      subst e1 e3
      have HA := Lib.hid ha
      have HSL := Lib.hid hs
      clear ha hc hs
      go_wp2_with fail
      go_ret
      exact ⟨_, _, rfl, HSL.out, HA.out.down (Nat.le_succ _), hsd.out.2⟩
set_option maxHeartbeats 2000000 in
theorem refsecs_no (a b c d s : Int) (w : World) (hh : ¬ Gm.has ⟨a, b, c, d⟩ s) :
    Calls Try.prog 40 #[.agg #[.int .i64 a, .int .i64 b, .int .i64 c, .int .i64 d], .int .i64 s] w fun r w' => r = .returned (.slice none 0 0) ∧ Below w.heap.size w w' := by
  have CF := Lib.hid (fun W => refsbform_any a b c d W)
  have HW : Hid (decide (Sb.form ⟨a, b, c, d⟩) = false ∨ (decide (Sb.form ⟨a, b, c, d⟩) = true ∧ decide (s < 0) = true) ∨ (decide (Sb.form ⟨a, b, c, d⟩) = true ∧ decide (s < 0) = false ∧ decide (d ≤ s) = true)) := by
    by_cases h1 : Sb.form ⟨a, b, c, d⟩
    · by_cases h2 : s < 0
      · exact .inr (.inl ⟨decide_eq_true h1, decide_eq_true h2⟩)
      · exact .inr (.inr ⟨decide_eq_true h1, decide_eq_false h2, decide_eq_true (Int.not_lt.1 fun h3 => hh ⟨h1, by omega, h3⟩)⟩)
    · exact .inl (decide_eq_false h1)
  have HS0 := Lib.hid (sd_new w #[.int .i64 a, .int .i64 b, .int .i64 c, .int .i64 d] 23)
  clear hh
  generalize decide (Sb.form ⟨a, b, c, d⟩) = t0 at *
  rcases HW.out with rfl | ⟨rfl, d1⟩ | ⟨rfl, d1, d2⟩
  all_goals
    clear HW
    go_enter Try.func40, Try.ntmps40
    go_upto_region 2 with fail
    generalize w.alloc (.cells #[.int .i64 a, .int .i64 b, .int .i64 c, .int .i64 d] 23) = w0 at *
    obtain ⟨z0, z1, z2, z3⟩ := four_cells HS0.out.1
    go_wp2_with fail
    refine (CF.out _).mono ?_
    rintro r w1 ⟨rfl, hb1⟩
    have HS1 := Lib.hid (HS0.out.next hb1 (by rfl) (by rfl) (by rfl) (by rfl))
    clear hb1 z0 z1 z2 z3
    obtain ⟨z0, z1, z2, z3⟩ := four_cells HS1.out.1
    go_wp2_with fail
    go_ret
    exact ⟨rfl, HS1.out.2⟩
end Go.Proofs.Ytmkilbogdenljaa
