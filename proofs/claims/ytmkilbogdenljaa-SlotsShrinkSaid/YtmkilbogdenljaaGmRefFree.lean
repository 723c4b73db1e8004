/-
  The walk of the reference's Free.
-/
import Derived.Test.YtmkilbogdenljaaGmRefOver
import Derived.OwnWalk
set_option maxRecDepth 100000
namespace Go.Proofs.Ytmkilbogdenljaa
open Go.RowKit
set_option maxHeartbeats 4000000 in
theorem refgmfree_any (a b c d : Int) (A : Option Addr) (lo B n cap : Nat) (live : List Gm.R) (w : World) (hB : B ≤ w.heap.size) (hn : Hid (live.length = n)) (hn2 : n ≤ 140737488355328) (hb : Hid (Arr regS w lo B A live)) :
    Calls Try.prog 31 #[.agg #[.int .i64 a, .int .i64 b, .int .i64 c, .int .i64 d], .slice A n cap] w (FreeIs w (Gm.free ⟨a, b, c, d⟩ live)) := by
  have HS0 := Lib.hid (sd_new w #[.int .i64 a, .int .i64 b, .int .i64 c, .int .i64 d] 23)
  have CO := Lib.hid (fun (s b0 b1 b2 b3 k : Int) W => refgmover_any a b c d s b0 b1 b2 b3 k W)
  have CH : Hid (∀ s : Int, decide (Gm.has ⟨a, b, c, d⟩ s) = true → ∃ N : Nat, 2 ≤ N ∧ ∀ W, Calls Try.prog 40 #[.agg #[.int .i64 a, .int .i64 b, .int .i64 c, .int .i64 d], .int .i64 s] W fun r w' => ∃ g c, r = .returned (.slice (some ⟨g, 0, none⟩) N c) ∧ Below W.heap.size W w') := fun s h => by
    have hh := of_decide_eq_true h
    have h4 := Gm.form_nums hh.1
    simp only at h4
    refine ⟨c.toNat, by omega, fun W => (refsecs_has a b c d s c.toNat (by omega) W hh).mono ?_⟩
    rintro r w' ⟨g, cc, rfl, -, -, h⟩
    exact ⟨_, _, rfl, h⟩
  have CN : Hid (∀ s : Int, decide (Gm.has ⟨a, b, c, d⟩ s) = false → ∀ W, Calls Try.prog 40 #[.agg #[.int .i64 a, .int .i64 b, .int .i64 c, .int .i64 d], .int .i64 s] W fun r w' => r = .returned (.slice none 0 0) ∧ Below W.heap.size W w') := fun s h W => refsecs_no a b c d s W (of_decide_eq_false h)
  have HEND : Hid (Gm.refTo ⟨a, b, c, d⟩ live 16 = Gm.free ⟨a, b, c, d⟩ live) := Gm.refTo_all _ _
  have HX : Hid (∀ k : Nat, Gm.refTo ⟨a, b, c, d⟩ live (k + 1) = Gm.refTo ⟨a, b, c, d⟩ live k ++ (if decide (Gm.has ⟨a, b, c, d⟩ (k : Int)) && !Gm.taken ⟨a, b, c, d⟩ (k : Int) live then [k] else [])) := Gm.refTo_next _ _
  have HLE : Hid (∀ k, (Gm.refTo ⟨a, b, c, d⟩ live k).length ≤ k) := Gm.refTo_length _ _
  have HZ : Hid (Gm.refTo ⟨a, b, c, d⟩ live 0 = []) := rfl
  have HTN : Hid (∀ (s : Int) k, k < n → Gm.taken ⟨a, b, c, d⟩ s (live.take (k + 1)) = (Gm.taken ⟨a, b, c, d⟩ s (live.take k) || decide (Gm.over ⟨a, b, c, d⟩ s (live.getD k Gm.R0).l (live.getD k Gm.R0).slot))) := fun s k hk => Gm.taken_next _ _ _ _ (by rw [hn.out]; exact hk)
  have HTZ : Hid (∀ s : Int, Gm.taken ⟨a, b, c, d⟩ s (live.take 0) = false) := fun s => rfl
  have HTA : Hid (∀ s : Int, Gm.taken ⟨a, b, c, d⟩ s (live.take n) = Gm.taken ⟨a, b, c, d⟩ s live) := fun s => taken_all _ _ _ _ hn.out
  unfold FreeIs
  rw [← HEND.out]
  clear HEND
  generalize Gm.refTo ⟨a, b, c, d⟩ live = fr at *
  go_enter Try.func31, Try.ntmps31
  go_upto_region 1 with fail
  generalize w.alloc (.cells #[.int .i64 a, .int .i64 b, .int .i64 c, .int .i64 d] 23) = w0 at *
  go_wp2_with fail
  go_loopw [5, 6] (fun rv iv wr => ∃ k : Nat, k ≤ 16 ∧ iv = .int .i64 (k : Int) ∧ Hid (ARow intS 3 wr (w.heap.size + 1) rv (fr k).length (Gm.ints (fr k))) ∧ Hid (Sd w w.heap.size (.cells #[.int .i64 a, .int .i64 b, .int .i64 c, .int .i64 d] 23 (0, 0)) wr)) (fun _ i _ => 16 - (Go.RowKit.intOf i).toNat)
  case atStart => exact ⟨0, Nat.zero_le _, rfl, by rw [HZ.out]; exact ARow.nil _ _, HS0.out⟩
  case round =>
    obtain ⟨k, hk, rfl, hrow, hsd⟩ := hrel
    obtain ⟨y0, y1, y2, y3⟩ := four_cells hsd.out.1
    by_cases hlt : k < 16
    · have HNK := Lib.hid (HX.out k)
      have HLK := Lib.hid (HLE.out k)
      have HHK := Lib.hid (CH.out (k : Int))
      have HNO := Lib.hid (CN.out (k : Int))
      generalize decide (Gm.has ⟨a, b, c, d⟩ (k : Int)) = t at *
      cases t with
      | false =>
        have HNO2 := Lib.hid (HNO.out (by first | exact rfl | exact trivial))
        go_wp2_with fail
        refine (HNO2.out _).mono ?_
        rintro r w1 ⟨rfl, hb1⟩
        have HS1 := Lib.hid (hsd.out.next hb1 (by rfl) (by rfl) (by rfl) (by rfl))
        have HR1 := Lib.hid (hrow.out.stays hb1)
        clear hb1
        go_wp2_with fail
        go_roundw
        case rel => exact ⟨k + 1, by omega, by go_num, by rw [HNK.out]; exact Lib.hid (by simpa using HR1.out), HS1.out⟩
        case measure => simp [Go.RowKit.intOf]; omega
      | true =>
        obtain ⟨N, hN, hsec⟩ := HHK.out (by first | exact rfl | exact trivial)
        have HSEC := Lib.hid hsec
        have hN0 : ((N : Int) == 0) = false := by rw [beq_eq_false_iff_ne]; omega
        clear hsec HHK HNO
        go_wp2_with fail
        refine (HSEC.out _).mono ?_
        rintro r w1 ⟨g1, c1, rfl, hb1⟩
        have HS1 := Lib.hid (hsd.out.next hb1 (by rfl) (by rfl) (by rfl) (by rfl))
        have HR1 := Lib.hid (hrow.out.stays hb1)
        clear hb1
        go_wp2_with fail
        go_loopw [7, 21] (fun hv iv wi => ∃ j : Nat, j ≤ n ∧ iv = .int .i64 (j : Int) ∧ hv = .bool (Gm.taken ⟨a, b, c, d⟩ (k : Int) (live.take j)) ∧ Hid (ARow intS 3 wi (w.heap.size + 1) u5 (fr k).length (Gm.ints (fr k))) ∧ Hid (Sd w w.heap.size (.cells #[.int .i64 a, .int .i64 b, .int .i64 c, .int .i64 d] 23 (0, 0)) wi)) (fun _ i _ => n - (Go.RowKit.intOf i).toNat)
        case atStart => exact ⟨0, Nat.zero_le _, rfl, by rw [HTZ.out], HR1.out, HS1.out⟩
        case round =>
          obtain ⟨j, hj, rfl, rfl, hro2, hsd2⟩ := hrel
          by_cases hlt2 : j < n
          · obtain ⟨ad, rfl⟩ := hb.out.some (k := j) (by rw [hn.out]; exact hlt2)
            obtain ⟨⟨r0, r1, r2, r3, r4, r5, ⟨l0, l1, l2, l3⟩⟩, HE⟩ : ∃ p, Hid (live.getD j Gm.R0 = p) := ⟨_, rfl⟩
            obtain ⟨m0, m1, m2, m3, m4, m5, m6, m7, m8, m9⟩ := regs_at (hb.out.below hsd2.out.2 hB) j (by rw [hn.out]; exact hlt2) _ HE.out
            simp only at m0 m1 m2 m3 m4 m5 m6 m7 m8 m9
            have HNJ := Lib.hid (HTN.out (k : Int) j hlt2)
            rw [HE.out] at HNJ
            simp only at HNJ
            have COJ := Lib.hid (fun W => CO.out (k : Int) l0 l1 l2 l3 r1 W)
            have HS3 : Hid (Sd w w.heap.size _ (wr.alloc (.cells #[.int .i64 r0, .int .i64 r1, .int .i64 r2, .int .i64 r3, .int .i64 r4, .int .i64 r5, .int .i64 l0, .int .i64 l1, .int .i64 l2, .int .i64 l3] 40))) := hsd2.out.next ((Below.refl _ wr).alloc (Nat.le_refl _) _) rfl rfl rfl rfl
            have HR3 := Lib.hid (hro2.out.made (.cells #[.int .i64 r0, .int .i64 r1, .int .i64 r2, .int .i64 r3, .int .i64 r4, .int .i64 r5, .int .i64 l0, .int .i64 l1, .int .i64 l2, .int .i64 l3] 40))
            have HG3 : Hid ((wr.alloc (.cells #[.int .i64 r0, .int .i64 r1, .int .i64 r2, .int .i64 r3, .int .i64 r4, .int .i64 r5, .int .i64 l0, .int .i64 l1, .int .i64 l2, .int .i64 l3] 40)).heap[wr.heap.size]? = some (.cells #[.int .i64 r0, .int .i64 r1, .int .i64 r2, .int .i64 r3, .int .i64 r4, .int .i64 r5, .int .i64 l0, .int .i64 l1, .int .i64 l2, .int .i64 l3] 40 (0, 0))) := heap_alloc_new _ _
            generalize Gm.taken ⟨a, b, c, d⟩ (k : Int) (live.take j) = t at *
            generalize decide (Gm.over ⟨a, b, c, d⟩ (k : Int) ⟨l0, l1, l2, l3⟩ r1) = v at *
            cases t with
            | true =>
              go_upto_region 10 with fail
              generalize wr.alloc (.cells #[.int .i64 r0, .int .i64 r1, .int .i64 r2, .int .i64 r3, .int .i64 r4, .int .i64 r5, .int .i64 l0, .int .i64 l1, .int .i64 l2, .int .i64 l3] 40) = w3 at *
              go_wp2_with fail
              go_roundw
              case rel => exact ⟨j + 1, by omega, by go_num, by rw [HNJ.out]; rfl, HR3, HS3⟩
              case measure => simp [Go.RowKit.intOf]; omega
            | false =>
              go_upto_region 10 with fail
              generalize wr.alloc (.cells #[.int .i64 r0, .int .i64 r1, .int .i64 r2, .int .i64 r3, .int .i64 r4, .int .i64 r5, .int .i64 l0, .int .i64 l1, .int .i64 l2, .int .i64 l3] 40) = w3 at *
              obtain ⟨x0, x1, x2, x3, x4, x5, x6, x7, x8, x9⟩ := ten_cells HG3.out
              obtain ⟨z0, z1, z2, z3⟩ := four_cells HS3.out.1
              go_wp2_with fail
              refine (COJ.out _).mono ?_
              rintro r w4 ⟨rfl, hb4⟩
              have HS4 := Lib.hid (HS3.out.next hb4 (by rfl) (by rfl) (by rfl) (by rfl))
              have HR4 := Lib.hid (HR3.out.stays hb4)
              clear hb4
              go_wp2_with fail
              go_roundw
              case rel => exact ⟨j + 1, by omega, by go_num, by rw [HNJ.out]; rfl, HR4, HS4⟩
              case measure => simp [Go.RowKit.intOf]; omega
          · obtain rfl : j = n := by omega
            have HTK := Lib.hid (HTA.out (k : Int))
            rw [HTK.out]
            generalize Gm.taken ⟨a, b, c, d⟩ (k : Int) live = t at *
            cases t with
            | true =>
              go_wp2_with fail
              go_roundw
              case rel => exact ⟨k + 1, by omega, by go_num, by rw [HNK.out]; exact Lib.hid (by simpa using hro2.out), hsd2.out⟩
              case measure => simp [Go.RowKit.intOf]; omega
            | false =>
              have hlk := HLK.out
              have HR3 := Lib.hid (hro2.out.made (.cells #[.int .i64 (k : Int)] 3))
              have HS3 : Hid (Sd w w.heap.size _ (wr.alloc (.cells #[.int .i64 (k : Int)] 3))) := hsd2.out.next ((Below.refl _ wr).alloc (Nat.le_refl _) _) rfl rfl rfl rfl
              have HG3 : Hid ((wr.alloc (.cells #[.int .i64 (k : Int)] 3)).heap[wr.heap.size]? = some (.cells #[.int .i64 (k : Int)] 3 (0, 0))) := heap_alloc_new _ _
              go_wp2_with (at_builtin; refine wpList_append_int rfl (.tmp 39) (.tmp 41) rfl (w.heap.size + 1) _ wr.heap.size 1 _ _ (k : Int) rfl HR3.out rfl HG3.out (by omega) HS3.out.lt ?_; intro v4 w4 hr4 hb4)
              have HR4 := Lib.hid hr4
              have HS4 : Hid (Sd w w.heap.size _ w4) := ⟨block_next HS3.out.1 hb4 (Nat.lt_succ_self _), HS3.out.2.trans (hb4.mono (Nat.le_succ _))⟩
              clear hr4 hb4
              go_wp2_with fail
              go_roundw
              case rel => exact ⟨k + 1, by omega, by go_num, by rw [HNK.out]; exact Lib.hid (by simpa [Gm.ints] using HR4.out), HS4.out⟩
              case measure => simp [Go.RowKit.intOf]; omega
    · obtain rfl : k = 16 := by omega
      go_wp2_with fail
      go_ret
      exact ⟨_, rfl, hrow.out.mono (Nat.le_succ _), hsd.out.2⟩
end Go.Proofs.Ytmkilbogdenljaa
