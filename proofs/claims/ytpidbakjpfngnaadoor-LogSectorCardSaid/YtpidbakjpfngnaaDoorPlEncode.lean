/-
  The walks of plan.payload and plan.Encode.
-/
import Derived.Test.YtpidbakjpfngnaaDoorPlBits
import Derived.Test.YtpidbakjpfngnaaDoorPlValid
set_option maxRecDepth 100000
namespace Go.Proofs.YtpidbakjpfngnaaDoor
open Go.RowKit
set_option maxHeartbeats 2000000 in
theorem plpayload_any (k m i t a b d : Nat) (c : Int) (w : World) (hk : k ≤ 2) (hm : m ≤ 4294967295) (hi : i ≤ 35) (ht : t ≤ 281474976710655) (ha : a ≤ 4294967295) (hb : b ≤ 2) (hc : Sb.pw c) (hd : d ≤ 16) (HD : Hid (∀ W, Below w.heap.size w W → DbW W)) :
    Calls Tryd.prog 43 #[.agg #[.int .i64 (k : Int), .int .i64 (m : Int), .int .i64 (i : Int), .int .i64 (t : Int), .int .i64 (a : Int), .int .i64 (b : Int), .int .i64 c, .int .i64 (d : Int)]] w fun r w' => ∃ A c', r = .returned (.slice A 19 c') ∧ Row w (Pl.body ⟨(k : Int), (m : Int), (i : Int), (t : Int), ⟨(a : Int), (b : Int), c, (d : Int)⟩⟩) 19 A c' w' := by
  have HBD : Hid (Pl.body ⟨(k : Int), (m : Int), (i : Int), (t : Int), ⟨(a : Int), (b : Int), c, (d : Int)⟩⟩ = ((((((([] ++ Wire.be 1 k) ++ Wire.be 4 m) ++ Wire.be 1 i) ++ Wire.be 6 t) ++ Wire.be 4 a) ++ Wire.be 1 b) ++ Wire.be 1 (Sb.ex c)) ++ Wire.be 1 d) := by
    show _ = _
    simp [Pl.body, Sb.lay]
  have HE : Hid (∀ W, Below w.heap.size w W → Calls Tryd.prog 64 #[.int .i64 c] W fun e w' => e = .returned (.int .u64 (Sb.ex c : Int)) ∧ W = w') := fun W hW => plexponent_any c hc W (HD.out W hW)
  clear hc HD
  generalize Pl.body ⟨(k : Int), (m : Int), (i : Int), (t : Int), ⟨(a : Int), (b : Int), c, (d : Int)⟩⟩ = bd at *
  generalize Sb.ex c = x at *
  have HS0 := Lib.hid (sd_new w #[.int .i64 (k : Int), .int .i64 (m : Int), .int .i64 (i : Int), .int .i64 (t : Int), .int .i64 (a : Int), .int .i64 (b : Int), .int .i64 c, .int .i64 (d : Int)] 34)
  go_enter Tryd.func43, Tryd.ntmps43
  go_wp2_with fail
  generalize w.alloc (.cells #[.int .i64 (k : Int), .int .i64 (m : Int), .int .i64 (i : Int), .int .i64 (t : Int), .int .i64 (a : Int), .int .i64 (b : Int), .int .i64 c, .int .i64 (d : Int)] 34) = w0 at *
  refine (put_row none 0 0 0 [] k 1 1 rfl w0 sl_nil rfl (by decide) (bs_nil _ _) (by decide) (by decide)).mono ?_
  rintro r w1 ⟨A1, n1, c1, p1, rfl, hp1, hn1, hr1⟩
  have h1 : n1 = 1 := hn1.out
  subst h1
  have HS1 := Lib.hid (HS0.out.next hr1.2.2.2.2 (by rfl) (by rfl) (by rfl) (by rfl))
  have HR1 := Lib.hid hr1
  clear hr1
  obtain ⟨z0, z1, z2, z3, z4, z5, z6, z7⟩ := eight_cells HS1.out.1
  go_wp2_with fail
  refine (put_row A1 w1.heap.size 1 c1 p1 m 4 4 rfl w1 HR1.out.2.2.1 HR1.out.2.1 (by decide) HR1.out.2.2.2.1 (by decide) (by decide)).mono ?_
  rintro r w2 ⟨A2, n2, c2, p2, rfl, hp2, hn2, hr2⟩
  have h2 : n2 = 5 := hn2.out
  subst h2
  have HS2 := Lib.hid (HS1.out.next hr2.2.2.2.2 (by rfl) (by rfl) (by rfl) (by rfl))
  have HR2 := Lib.hid hr2
  clear hr2 z0 z1 z2 z3 z4 z5 z6 z7
  obtain ⟨z0, z1, z2, z3, z4, z5, z6, z7⟩ := eight_cells HS2.out.1
  go_wp2_with fail
  refine (put_row A2 w2.heap.size 5 c2 p2 i 1 1 rfl w2 HR2.out.2.2.1 HR2.out.2.1 (by decide) HR2.out.2.2.2.1 (by decide) (by decide)).mono ?_
  rintro r w3 ⟨A3, n3, c3, p3, rfl, hp3, hn3, hr3⟩
  have h3 : n3 = 6 := hn3.out
  subst h3
  have HS3 := Lib.hid (HS2.out.next hr3.2.2.2.2 (by rfl) (by rfl) (by rfl) (by rfl))
  have HR3 := Lib.hid hr3
  clear hr3 z0 z1 z2 z3 z4 z5 z6 z7
  obtain ⟨z0, z1, z2, z3, z4, z5, z6, z7⟩ := eight_cells HS3.out.1
  go_wp2_with fail
  refine (put_row A3 w3.heap.size 6 c3 p3 t 6 6 rfl w3 HR3.out.2.2.1 HR3.out.2.1 (by decide) HR3.out.2.2.2.1 (by decide) (by decide)).mono ?_
  rintro r w4 ⟨A4, n4, c4, p4, rfl, hp4, hn4, hr4⟩
  have h4 : n4 = 12 := hn4.out
  subst h4
  have HS4 := Lib.hid (HS3.out.next hr4.2.2.2.2 (by rfl) (by rfl) (by rfl) (by rfl))
  have HR4 := Lib.hid hr4
  clear hr4 z0 z1 z2 z3 z4 z5 z6 z7
  obtain ⟨z0, z1, z2, z3, z4, z5, z6, z7⟩ := eight_cells HS4.out.1
  go_wp2_with fail
  refine (put_row A4 w4.heap.size 12 c4 p4 a 4 4 rfl w4 HR4.out.2.2.1 HR4.out.2.1 (by decide) HR4.out.2.2.2.1 (by decide) (by decide)).mono ?_
  rintro r w5 ⟨A5, n5, c5, p5, rfl, hp5, hn5, hr5⟩
  have h5 : n5 = 16 := hn5.out
  subst h5
  have HS5 := Lib.hid (HS4.out.next hr5.2.2.2.2 (by rfl) (by rfl) (by rfl) (by rfl))
  have HR5 := Lib.hid hr5
  clear hr5 z0 z1 z2 z3 z4 z5 z6 z7
  obtain ⟨z0, z1, z2, z3, z4, z5, z6, z7⟩ := eight_cells HS5.out.1
  go_wp2_with fail
  refine (put_row A5 w5.heap.size 16 c5 p5 b 1 1 rfl w5 HR5.out.2.2.1 HR5.out.2.1 (by decide) HR5.out.2.2.2.1 (by decide) (by decide)).mono ?_
  rintro r w6 ⟨A6, n6, c6, p6, rfl, hp6, hn6, hr6⟩
  have h6 : n6 = 17 := hn6.out
  subst h6
  have HS6 := Lib.hid (HS5.out.next hr6.2.2.2.2 (by rfl) (by rfl) (by rfl) (by rfl))
  have HR6 := Lib.hid hr6
  clear hr6 z0 z1 z2 z3 z4 z5 z6 z7
  obtain ⟨z0, z1, z2, z3, z4, z5, z6, z7⟩ := eight_cells HS6.out.1
  go_wp2_with fail
  refine (HE.out _ HS6.out.2).mono ?_
  rintro r w' ⟨rfl, rfl⟩
  go_wp2_with fail
  refine (put_row A6 w6.heap.size 17 c6 p6 x 1 1 rfl w6 HR6.out.2.2.1 HR6.out.2.1 (by decide) HR6.out.2.2.2.1 (by decide) (by decide)).mono ?_
  rintro r w7 ⟨A7, n7, c7, p7, rfl, hp7, hn7, hr7⟩
  have h7 : n7 = 18 := hn7.out
  subst h7
  have HS7 := Lib.hid (HS6.out.next hr7.2.2.2.2 (by rfl) (by rfl) (by rfl) (by rfl))
  have HR7 := Lib.hid hr7
  clear hr7 z0 z1 z2 z3 z4 z5 z6 z7
  obtain ⟨z0, z1, z2, z3, z4, z5, z6, z7⟩ := eight_cells HS7.out.1
  go_wp2_with fail
  refine (put_row A7 w7.heap.size 18 c7 p7 d 1 1 rfl w7 HR7.out.2.2.1 HR7.out.2.1 (by decide) HR7.out.2.2.2.1 (by decide) (by decide)).mono ?_
  rintro r w8 ⟨A8, n8, c8, p8, rfl, hp8, hn8, hr8⟩
  have h8 : n8 = 19 := hn8.out
  subst h8
  have HS8 := Lib.hid (HS7.out.next hr8.2.2.2.2 (by rfl) (by rfl) (by rfl) (by rfl))
  have HR8 := Lib.hid hr8
  clear hr8 z0 z1 z2 z3 z4 z5 z6 z7
  go_wp2
  go_ret
  have hp : bd = p8 := by rw [HBD.out, hp8.out, hp7.out, hp6.out, hp5.out, hp4.out, hp3.out, hp2.out, hp1.out]
  rw [hp]
  exact ⟨A8, c8, rfl, ownsRow_mono HR8.out.1 HS7.out.2.size, HR8.out.2.1, HR8.out.2.2.1, HR8.out.2.2.2.1, HS8.out.2⟩
theorem pl_nat {p : Pl.P} (hv : Pl.valid p) : ∃ (k m i t a b d : Nat) (c : Int), p = ⟨(k : Int), (m : Int), (i : Int), (t : Int), ⟨(a : Int), (b : Int), c, (d : Int)⟩⟩ ∧ k ≤ 2 ∧ m ≤ 4294967295 ∧ i ≤ 35 ∧ t ≤ 281474976710655 ∧ a ≤ 4294967295 ∧ b ≤ 2 ∧ Sb.pw c ∧ d ≤ 16 := by
  obtain ⟨k, m, i, t, ⟨a, b, c, d⟩⟩ := p
  obtain ⟨h1, h2, ⟨h3, h4, h5, h6⟩, h7⟩ := hv
  simp only at h1 h2 h3 h4 h5 h6 h7
  obtain ⟨k, rfl⟩ := Int.eq_ofNat_of_zero_le (show 0 ≤ k by omega)
  obtain ⟨m, rfl⟩ := Int.eq_ofNat_of_zero_le (show 0 ≤ m by omega)
  obtain ⟨i, rfl⟩ := Int.eq_ofNat_of_zero_le (show 0 ≤ i by omega)
  obtain ⟨t, rfl⟩ := Int.eq_ofNat_of_zero_le (show 0 ≤ t by omega)
  obtain ⟨a, rfl⟩ := Int.eq_ofNat_of_zero_le (show 0 ≤ a by omega)
  obtain ⟨b, rfl⟩ := Int.eq_ofNat_of_zero_le (show 0 ≤ b by omega)
  obtain ⟨d, rfl⟩ := Int.eq_ofNat_of_zero_le (show 0 ≤ d by omega)
  exact ⟨k, m, i, t, a, b, d, c, rfl, by omega, by omega, by omega, by omega, by omega, by omega, h5, by omega⟩
set_option maxHeartbeats 2000000 in
theorem plencode_any (k m i t a b c d x : Int) (w : World) (ht : Hid (TabW w)) (hz : 0 < w.heap.size) (HD : Hid (∀ W, Below w.heap.size w W → DbW W)) :
    Calls Tryd.prog 27 #[.agg #[.int .i64 k, .int .i64 m, .int .i64 i, .int .i64 t, .int .i64 a, .int .i64 b, .int .i64 c, .int .i64 d], .int .i64 x] w (FrEnc w (Pl.enc x ⟨k, m, i, t, ⟨a, b, c, d⟩⟩) (Pl.err ⟨k, m, i, t, ⟨a, b, c, d⟩⟩ x)) := by
  by_cases hv : Pl.valid ⟨k, m, i, t, ⟨a, b, c, d⟩⟩
  · have HV : Hid (∀ W, Calls Tryd.prog 41 #[.agg #[.int .i64 k, .int .i64 m, .int .i64 i, .int .i64 t, .int .i64 a, .int .i64 b, .int .i64 c, .int .i64 d]] W fun r w' => r = .returned (.bool true) ∧ Below W.heap.size W w') := fun W => by
      have h := plvalid_any k m i t a b c d W
      rwa [decide_eq_true hv] at h
    have HP : Hid (∀ W, Below w.heap.size w W → Calls Tryd.prog 43 #[.agg #[.int .i64 k, .int .i64 m, .int .i64 i, .int .i64 t, .int .i64 a, .int .i64 b, .int .i64 c, .int .i64 d]] W fun r w' => ∃ A c', r = .returned (.slice A 19 c') ∧ Row W (Pl.body ⟨k, m, i, t, ⟨a, b, c, d⟩⟩) 19 A c' w') := fun W hW => by
      obtain ⟨k', m', i', t', a', b', d', c', hh, q0, q1, q2, q3, q4, q5, q6, q7⟩ := pl_nat hv
      rw [hh]
      injection hh with h0 h1 h2 h3 h4
      injection h4 with h4 h5 h6 h7
      subst h0 h1 h2 h3 h4 h5 h6 h7
      exact plpayload_any k' m' i' t' a' b' d' c W q0 q1 q2 q3 q4 q5 q6 q7 (fun W' hW' => HD.out W' (hW.trans (hW'.mono hW.size)))
    have he0 : Pl.err ⟨k, m, i, t, ⟨a, b, c, d⟩⟩ x = Fr.err 4 0 x 19 := by
      rw [Pl.err_fr _ _ hv]
      unfold Fr.err
      by_cases hm : Fr.may 4 0 x
      · rw [if_pos hm, if_pos hm]; rfl
      · rw [if_neg hm, if_neg hm]
    have HEN : Hid (∀ W A c', Below w.heap.size w W → SlIs A 19 c' → Bs W W.heap.size A (Pl.body ⟨k, m, i, t, ⟨a, b, c, d⟩⟩) → Calls Tryd.prog 42 #[.int .i64 4, .int .i64 0, .int .i64 x, .slice A 19 c'] W (FrEnc W (Pl.enc x ⟨k, m, i, t, ⟨a, b, c, d⟩⟩) (Fr.err 4 0 x 19))) := fun W A c' hW h1 h2 =>
      frencode_any 4 0 x A W.heap.size 19 c' _ W (by decide) (Nat.le_refl _) h1 (Pl.body_length _) h2 (ht.out.below hW hz) (Nat.lt_of_lt_of_le hz hW.size)
    rw [he0]
    clear he0 hv HD
    generalize Pl.enc x ⟨k, m, i, t, ⟨a, b, c, d⟩⟩ = en at *
    generalize Pl.body ⟨k, m, i, t, ⟨a, b, c, d⟩⟩ = bd at *
    generalize Fr.err 4 0 x 19 = er at *
    unfold FrEnc at HEN ⊢
    have HS0 := Lib.hid (sd_new w #[.int .i64 k, .int .i64 m, .int .i64 i, .int .i64 t, .int .i64 a, .int .i64 b, .int .i64 c, .int .i64 d] 34)
    go_enter Tryd.func27, Tryd.ntmps27
    go_wp2_with fail
    generalize w.alloc (.cells #[.int .i64 k, .int .i64 m, .int .i64 i, .int .i64 t, .int .i64 a, .int .i64 b, .int .i64 c, .int .i64 d] 34) = w0 at *
    refine (HV.out _).mono ?_
    rintro r w1 ⟨rfl, hb1⟩
    have HS1 := Lib.hid (HS0.out.next hb1 (by rfl) (by rfl) (by rfl) (by rfl))
    clear hb1
    obtain ⟨z0, z1, z2, z3, z4, z5, z6, z7⟩ := eight_cells HS1.out.1
    go_wp2_with fail
    refine (HP.out _ HS1.out.2).mono ?_
    rintro r w2 ⟨A2, c2, rfl, hr2⟩
    have HS2 := Lib.hid (HS1.out.next hr2.2.2.2.2 (by rfl) (by rfl) (by rfl) (by rfl))
    have HR2 := Lib.hid hr2
    clear hr2 z0 z1 z2 z3 z4 z5 z6 z7
    go_wp2_with fail
    refine (HEN.out _ _ _ HS2.out.2 HR2.out.2.2.1 HR2.out.2.2.2.1).mono ?_
    rintro r w3 ⟨A3, n3, c3, rfl, hs3, hy3, hx3, hb3⟩
    have HS3 := Lib.hid (HS2.out.next hb3 (by rfl) (by rfl) (by rfl) (by rfl))
    have HY3 := Lib.hid (And.intro hs3 (And.intro hy3 hx3))
    clear hs3 hy3 hx3 hb3
    go_wp2
    go_ret2
    exact ⟨A3, n3, c3, rfl, HY3.out.1, fun h => ⟨(HY3.out.2.1 h).1, ownsRow_mono (HY3.out.2.1 h).2 HS2.out.2.size⟩, HY3.out.2.2, HS3.out.2⟩
  · have HV : Hid (∀ W, Calls Tryd.prog 41 #[.agg #[.int .i64 k, .int .i64 m, .int .i64 i, .int .i64 t, .int .i64 a, .int .i64 b, .int .i64 c, .int .i64 d]] W fun r w' => r = .returned (.bool false) ∧ Below W.heap.size W w') := fun W => by
      have h := plvalid_any k m i t a b c d W
      rwa [decide_eq_false hv] at h
    have he0 : Pl.err ⟨k, m, i, t, ⟨a, b, c, d⟩⟩ x = 4 := by unfold Pl.err; rw [if_neg hv]
    rw [he0]
    clear he0 hv HD
    have HS0 := Lib.hid (sd_new w #[.int .i64 k, .int .i64 m, .int .i64 i, .int .i64 t, .int .i64 a, .int .i64 b, .int .i64 c, .int .i64 d] 34)
    go_enter Tryd.func27, Tryd.ntmps27
    go_wp2_with fail
    generalize w.alloc (.cells #[.int .i64 k, .int .i64 m, .int .i64 i, .int .i64 t, .int .i64 a, .int .i64 b, .int .i64 c, .int .i64 d] 34) = w0 at *
    refine (HV.out _).mono ?_
    rintro r w1 ⟨rfl, hb1⟩
    have HS1 := Lib.hid (HS0.out.next hb1 (by rfl) (by rfl) (by rfl) (by rfl))
    clear hb1
    go_wp2
    go_ret2
    exact ⟨none, 0, 0, rfl, sl_nil, fun e => absurd e (by decide), fun _ => rfl, HS1.out.2⟩
end Go.Proofs.YtpidbakjpfngnaaDoor
