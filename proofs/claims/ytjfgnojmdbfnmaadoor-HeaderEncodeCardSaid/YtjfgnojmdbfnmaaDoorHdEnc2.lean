/-
  The walk of the statement on Encode of headers.
-/
import Derived.Test.YtjfgnojmdbfnmaaDoorHdLaws
namespace Go.Proofs.YtjfgnojmdbfnmaaDoor
open Go.RowKit
theorem hd_three (h : Hd.H) (x : Int) : (¬ Hd.valid h ∧ Hd.err h x = 4) ∨ (Hd.valid h ∧ (x < 0 ∨ (0 ≤ x ∧ 1048576 ≤ x)) ∧ Hd.err h x = 2) ∨ (Hd.valid h ∧ 0 ≤ x ∧ x < 1048576 ∧ Hd.err h x = 0) := by
  unfold Hd.err
  by_cases hv : Hd.valid h
  · by_cases hx : 0 ≤ x ∧ x < 1048576
    · exact .inr (.inr ⟨hv, hx.1, hx.2, by rw [if_pos hv, if_pos hx]⟩)
    · exact .inr (.inl ⟨hv, by omega, by rw [if_pos hv, if_neg hx]⟩)
  · exact .inl ⟨hv, by rw [if_neg hv]⟩
set_option maxHeartbeats 2000000 in
theorem headerencode_any (a b c d e f x : Int) (w : World) (ht : Hid (TabW w)) (hz : 0 < w.heap.size) :
    Calls Tryd.prog 4 #[.agg #[.int .i64 a, .int .i64 b, .int .i64 c, .int .i64 d, .int .i64 e, .int .i64 f], .int .i64 x] w fun r w' => r = .returned (.bool true) ∧ Below w.heap.size w w' := by
  have HAW : Hid (∀ W, Below w.heap.size w W → Calls Tryd.prog 12 #[] W fun e w' => e = .returned (.bool true) ∧ Below W.heap.size W w') := fun W hW => hdawake_any W (ht.out.below hW hz) (Nat.lt_of_lt_of_le hz hW.size)
  have HEN : Hid (∀ W, Below w.heap.size w W → Calls Tryd.prog 15 #[.agg #[.int .i64 a, .int .i64 b, .int .i64 c, .int .i64 d, .int .i64 e, .int .i64 f], .int .i64 x] W (FrEnc W (Hd.enc x ⟨a, b, c, d, e, f⟩) (Hd.err ⟨a, b, c, d, e, f⟩ x))) := fun W hW =>
    hdencode_any a b c d e f x W (ht.out.below hW hz) (Nat.lt_of_lt_of_le hz hW.size)
  have HV := Lib.hid (fun W => refhdvalid_any a b c d e f W)
  have HRE : Hid (Hd.valid ⟨a, b, c, d, e, f⟩ → 0 ≤ x ∧ x < 1048576 → ∀ W, Calls Tryd.prog 18 #[.agg #[.int .i64 a, .int .i64 b, .int .i64 c, .int .i64 d, .int .i64 e, .int .i64 f], .int .i64 x] W fun r w' => ∃ A3 c3, r = .returned (.slice A3 64 c3) ∧ SlIs A3 64 c3 ∧ Bs w' w'.heap.size A3 (Hd.enc x ⟨a, b, c, d, e, f⟩) ∧ Below W.heap.size W w') := fun hv hx W => refhdenc_any a b c d e f x W hv hx
  have HD : Hid (Hd.valid ⟨a, b, c, d, e, f⟩ → 0 ≤ x ∧ x < 1048576 → ∀ W A c', Below w.heap.size w W → SlIs A 64 c' → Bs W W.heap.size A (Hd.enc x ⟨a, b, c, d, e, f⟩) → Calls Tryd.prog 16 #[.slice A 64 c', .int .i64 x] W fun r w' => r = .returned (.tuple #[.agg #[.int .i64 a, .int .i64 b, .int .i64 c, .int .i64 d, .int .i64 e, .int .i64 f], .bool true]) ∧ Below W.heap.size W w') := fun hv hx W A c' hW h1 h2 => by
    refine (hddecode_any x A W.heap.size 64 c' _ W (Nat.le_refl _) h1 (Hd.enc_length _ _) h2 (ht.out.below hW hz) (Nat.lt_of_lt_of_le hz hW.size)).mono fun _ _ h => h.elim (fun h => ?_) (fun h => absurd ((Hd.good_enc x x _ hv (by unfold Fr.may; omega)).2 rfl) h.1)
    have h2 := h.2
    rwa [Hd.rd_enc x _ hv] at h2
  have HEL : Hid ((∀ y ∈ Hd.enc x ⟨a, b, c, d, e, f⟩, y < 256) ∧ (Hd.enc x ⟨a, b, c, d, e, f⟩).length = 64) := ⟨Hd.enc_lt _ _, Hd.enc_length _ _⟩
  have H3 := hd_three ⟨a, b, c, d, e, f⟩ x
  have hq := fun W : World => hdr_eq' W a b c d e f a b c d e f
  rw [Hd.same_self] at hq
  unfold FrEnc at HEN
  generalize Hd.enc x ⟨a, b, c, d, e, f⟩ = en at *
  generalize Hd.err ⟨a, b, c, d, e, f⟩ x = er at *
  have HS0 := Lib.hid (sd_new w #[.int .i64 a, .int .i64 b, .int .i64 c, .int .i64 d, .int .i64 e, .int .i64 f] 23)
  rcases H3 with ⟨hv, rfl⟩ | ⟨hv, hx, rfl⟩ | ⟨hv, hx0, hx1, rfl⟩
  · rw [decide_eq_false hv] at HV
    clear hv HRE HD hq
    go_enter Tryd.func4, Tryd.ntmps4
    go_wp2_with fail
    generalize w.alloc (.cells #[.int .i64 a, .int .i64 b, .int .i64 c, .int .i64 d, .int .i64 e, .int .i64 f] 23) = w0 at *
    refine (HEN.out _ HS0.out.2).mono ?_
    rintro r w1 ⟨A1, n1, c1, rfl, -, -, hx1, hb1⟩
    obtain rfl := hx1 (by decide)
    have HS1 := Lib.hid (HS0.out.next hb1 (by rfl) (by rfl) (by rfl) (by rfl))
    clear hb1 hx1
    obtain ⟨z0, z1, z2, z3, z4, z5⟩ := six_cells HS1.out.1
    go_wp2_with fail
    refine (HV.out _).mono ?_
    rintro r w2 ⟨rfl, hb2⟩
    have HS2 := Lib.hid (HS1.out.next hb2 (by rfl) (by rfl) (by rfl) (by rfl))
    clear hb2 z0 z1 z2 z3 z4 z5
    go_wp2_with fail
    refine (HAW.out _ HS2.out.2).mono ?_
    rintro r w3 ⟨rfl, hb3⟩
    have HS3 := Lib.hid (HS2.out.next hb3 (by rfl) (by rfl) (by rfl) (by rfl))
    clear hb3
    go_wp2
    go_ret
    exact ⟨rfl, HS3.out.2⟩
  · rw [decide_eq_true hv] at HV
    have hd : decide (x < 0) = true ∨ (decide (x < 0) = false ∧ decide (1048576 ≤ x) = true) := by
      rcases hx with h | h
      · exact .inl (by simpa using h)
      · exact .inr ⟨by simp; omega, by simpa using h.2⟩
    clear hv HRE HD hq hx
    rcases hd with hd | ⟨hd, hd2⟩
    all_goals
      go_enter Tryd.func4, Tryd.ntmps4
      go_wp2_with fail
      generalize w.alloc (.cells #[.int .i64 a, .int .i64 b, .int .i64 c, .int .i64 d, .int .i64 e, .int .i64 f] 23) = w0 at *
      refine (HEN.out _ HS0.out.2).mono ?_
      rintro r w1 ⟨A1, n1, c1, rfl, -, -, hx1, hb1⟩
      obtain rfl := hx1 (by decide)
      have HS1 := Lib.hid (HS0.out.next hb1 (by rfl) (by rfl) (by rfl) (by rfl))
      clear hb1 hx1
      obtain ⟨z0, z1, z2, z3, z4, z5⟩ := six_cells HS1.out.1
      go_wp2_with fail
      refine (HV.out _).mono ?_
      rintro r w2 ⟨rfl, hb2⟩
      have HS2 := Lib.hid (HS1.out.next hb2 (by rfl) (by rfl) (by rfl) (by rfl))
      clear hb2 z0 z1 z2 z3 z4 z5
      go_wp2_with fail
      refine (HAW.out _ HS2.out.2).mono ?_
      rintro r w3 ⟨rfl, hb3⟩
      have HS3 := Lib.hid (HS2.out.next hb3 (by rfl) (by rfl) (by rfl) (by rfl))
      clear hb3
      go_wp2
      go_ret
      exact ⟨rfl, HS3.out.2⟩
  · rw [decide_eq_true hv] at HV
    have HR2 := Lib.hid (HRE.out hv ⟨hx0, hx1⟩)
    have HD2 := Lib.hid (HD.out hv ⟨hx0, hx1⟩)
    have hd : decide (x < 0) = false := by simp; omega
    have hd2 : decide (1048576 ≤ x) = false := by simp; omega
    clear hv HRE HD hx0 hx1
    go_enter Tryd.func4, Tryd.ntmps4
    go_wp2_with fail
    generalize w.alloc (.cells #[.int .i64 a, .int .i64 b, .int .i64 c, .int .i64 d, .int .i64 e, .int .i64 f] 23) = w0 at *
    refine (HEN.out _ HS0.out.2).mono ?_
    rintro r w1 ⟨A1, n1, c1, rfl, hs1, hy1, -, hb1⟩
    obtain ⟨rfl, hown⟩ := hy1 (by trivial)
    obtain ⟨A1', c1', e1, hbs, -, -, -, -⟩ := own_bytes hown HEL.out.1
    injection e1 with e1 _ e3
    subst e1 e3
    have HS1 := Lib.hid (HS0.out.next hb1 (by rfl) (by rfl) (by rfl) (by rfl))
    have HB1 : Hid (SlIs A1 64 c1 ∧ Bs w1 w1.heap.size A1 en) := ⟨hs1, hbs⟩
    clear hb1 hy1 hown hbs hs1
    obtain ⟨z0, z1, z2, z3, z4, z5⟩ := six_cells HS1.out.1
    go_wp2_with fail
    refine (HV.out _).mono ?_
    rintro r w2 ⟨rfl, hb2⟩
    have HS2 := Lib.hid (HS1.out.next hb2 (by rfl) (by rfl) (by rfl) (by rfl))
    have HB2 : Hid (Bs w2 w1.heap.size A1 en ∧ w1.heap.size ≤ w2.heap.size) := ⟨HB1.out.2.below hb2 (Nat.le_refl _), hb2.size⟩
    clear hb2 z0 z1 z2 z3 z4 z5
    go_wp2_with fail
    refine (HD2.out w2 A1 c1 HS2.out.2 HB1.out.1 (bs_own HB2.out.1)).mono ?_
    rintro r w3 ⟨rfl, hb3⟩
    have HS3 := Lib.hid (HS2.out.next hb3 (by rfl) (by rfl) (by rfl) (by rfl))
    have HS4 := Lib.hid (sd_far (cs' := #[.int .i64 a, .int .i64 b, .int .i64 c, .int .i64 d, .int .i64 e, .int .i64 f]) (t' := 23) HS3.out HS3.out.lt)
    have HN4 : Hid ((w3.alloc (.cells #[.int .i64 a, .int .i64 b, .int .i64 c, .int .i64 d, .int .i64 e, .int .i64 f] 23)).heap[w3.heap.size]? = some (.cells #[.int .i64 a, .int .i64 b, .int .i64 c, .int .i64 d, .int .i64 e, .int .i64 f] 23 (0, 0))) := heap_alloc_new _ _
    have HB4 : Hid (Bs (w3.alloc (.cells #[.int .i64 a, .int .i64 b, .int .i64 c, .int .i64 d, .int .i64 e, .int .i64 f] 23)) w1.heap.size A1 en ∧ w1.heap.size ≤ (w3.alloc (.cells #[.int .i64 a, .int .i64 b, .int .i64 c, .int .i64 d, .int .i64 e, .int .i64 f] 23)).heap.size) := ⟨(HB2.out.1.below hb3 HB2.out.2).below ((Below.refl _ w3).alloc (Nat.le_refl _) _) (Nat.le_trans HB2.out.2 hb3.size), Nat.le_trans HB2.out.2 (Nat.le_trans hb3.size (by simp))⟩
    clear hb3
    go_wp2_with fail
    generalize w3.alloc (.cells #[.int .i64 a, .int .i64 b, .int .i64 c, .int .i64 d, .int .i64 e, .int .i64 f] 23) = w4 at *
    refine (HAW.out _ HS4.out.2).mono ?_
    rintro r w5 ⟨rfl, hb5⟩
    have HS5 := Lib.hid (HS4.out.next hb5 (by rfl) (by rfl) (by rfl) (by rfl))
    have HN5 : Hid (w5.heap[w3.heap.size]? = some (.cells #[.int .i64 a, .int .i64 b, .int .i64 c, .int .i64 d, .int .i64 e, .int .i64 f] 23 (0, 0))) := (hb5.block _ (Array.getElem?_eq_some_iff.1 HN4.out).1).trans HN4.out
    have HB5 : Hid (Bs w5 w1.heap.size A1 en ∧ w1.heap.size ≤ w5.heap.size) := ⟨HB4.out.1.below hb5 HB4.out.2, Nat.le_trans HB4.out.2 hb5.size⟩
    clear hb5
    obtain ⟨z0, z1, z2, z3, z4, z5⟩ := six_cells HS5.out.1
    go_wp2_with fail
    refine (HR2.out _).mono ?_
    rintro r w6 ⟨A6, c6, rfl, -, hbs6, hb6⟩
    have HS6 := Lib.hid (HS5.out.next hb6 (by rfl) (by rfl) (by rfl) (by rfl))
    have HN6 : Hid (w6.heap[w3.heap.size]? = some (.cells #[.int .i64 a, .int .i64 b, .int .i64 c, .int .i64 d, .int .i64 e, .int .i64 f] 23 (0, 0))) := (hb6.block _ (Array.getElem?_eq_some_iff.1 HN5.out).1).trans HN5.out
    have HQ : Hid (Calls Tryd.prog 17 #[.slice A1 64 c1, .slice A6 64 c6] w6 (SaysQuiet true w6)) := by
      have h := refeq_any A1 A6 w1.heap.size w6.heap.size 64 64 c1 c6 en en w6 HEL.out.2 HEL.out.2 (by decide) (by decide) (HB5.out.1.below hb6 HB5.out.2) hbs6
      rwa [decide_eq_true rfl] at h
    clear hb6 hbs6 z0 z1 z2 z3 z4 z5
    obtain ⟨z0, z1, z2, z3, z4, z5⟩ := six_cells HS6.out.1
    obtain ⟨y0, y1, y2, y3, y4, y5⟩ := six_cells HN6.out
    go_wp2_with fail
    refine HQ.out.mono ?_
    rintro r w7 ⟨rfl, k7, rfl⟩
    go_wp2
    go_ret
    exact ⟨rfl, below_drawn HS6.out.2 _⟩
end Go.Proofs.YtjfgnojmdbfnmaaDoor
