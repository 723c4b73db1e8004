/-
  The walks of header.payload and header.Encode.
-/
import Derived.Test.YtjfgnojmdbfnmaaDoorHdWalk
namespace Go.Proofs.YtjfgnojmdbfnmaaDoor
open Go.RowKit
set_option maxHeartbeats 1000000 in
theorem hdpayload_any (a b c d e f : Nat) (w : World) (ha : a ≤ 2) (hb : b ≤ 15) (hc : c ≤ 4294967295) (hd : d ≤ 281474976710655) (he : e ≤ 281474976710655) (hf : f ≤ 549755813888) :
    Calls Tryd.prog 35 #[.agg #[.int .i64 (a : Int), .int .i64 (b : Int), .int .i64 (c : Int), .int .i64 (d : Int), .int .i64 (e : Int), .int .i64 (f : Int)]] w fun r w' => ∃ A c', r = .returned (.slice A 23 c') ∧ Row w (Hd.body ⟨(a : Int), (b : Int), (c : Int), (d : Int), (e : Int), (f : Int)⟩) 23 A c' w' := by
  have HBD : Hid (Hd.body ⟨(a : Int), (b : Int), (c : Int), (d : Int), (e : Int), (f : Int)⟩ = ((((([] ++ Wire.be 1 a) ++ Wire.be 1 b) ++ Wire.be 4 c) ++ Wire.be 6 d) ++ Wire.be 6 e) ++ Wire.be 5 f) := by
    show _ = _
    simp [Hd.body]
  generalize Hd.body ⟨(a : Int), (b : Int), (c : Int), (d : Int), (e : Int), (f : Int)⟩ = bd at *
  have HS0 := Lib.hid (sd_new w #[.int .i64 (a : Int), .int .i64 (b : Int), .int .i64 (c : Int), .int .i64 (d : Int), .int .i64 (e : Int), .int .i64 (f : Int)] 23)
  go_enter Tryd.func35, Tryd.ntmps35
  go_wp2_with fail
  generalize w.alloc (.cells #[.int .i64 (a : Int), .int .i64 (b : Int), .int .i64 (c : Int), .int .i64 (d : Int), .int .i64 (e : Int), .int .i64 (f : Int)] 23) = w0 at *
  refine (put_row none 0 0 0 [] a 1 1 rfl w0 sl_nil rfl (by decide) (bs_nil _ _) (by decide) (by decide)).mono ?_
  rintro r w1 ⟨A1, n1, c1, p1, rfl, hp1, hn1, hr1⟩
  have h1 : n1 = 1 := hn1.out
  subst h1
  have HS1 := Lib.hid (HS0.out.next hr1.2.2.2.2 (by rfl) (by rfl) (by rfl) (by rfl))
  have HR1 := Lib.hid hr1
  clear hr1
  obtain ⟨z0, z1, z2, z3, z4, z5⟩ := six_cells HS1.out.1
  go_wp2_with fail
  refine (put_row A1 w1.heap.size 1 c1 p1 b 1 1 rfl w1 HR1.out.2.2.1 HR1.out.2.1 (by decide) HR1.out.2.2.2.1 (by decide) (by decide)).mono ?_
  rintro r w2 ⟨A2, n2, c2, p2, rfl, hp2, hn2, hr2⟩
  have h2 : n2 = 2 := hn2.out
  subst h2
  have HS2 := Lib.hid (HS1.out.next hr2.2.2.2.2 (by rfl) (by rfl) (by rfl) (by rfl))
  have HR2 := Lib.hid hr2
  clear hr2 z0 z1 z2 z3 z4 z5
  obtain ⟨z0, z1, z2, z3, z4, z5⟩ := six_cells HS2.out.1
  go_wp2_with fail
  refine (put_row A2 w2.heap.size 2 c2 p2 c 4 4 rfl w2 HR2.out.2.2.1 HR2.out.2.1 (by decide) HR2.out.2.2.2.1 (by decide) (by decide)).mono ?_
  rintro r w3 ⟨A3, n3, c3, p3, rfl, hp3, hn3, hr3⟩
  have h3 : n3 = 6 := hn3.out
  subst h3
  have HS3 := Lib.hid (HS2.out.next hr3.2.2.2.2 (by rfl) (by rfl) (by rfl) (by rfl))
  have HR3 := Lib.hid hr3
  clear hr3 z0 z1 z2 z3 z4 z5
  obtain ⟨z0, z1, z2, z3, z4, z5⟩ := six_cells HS3.out.1
  go_wp2_with fail
  refine (put_row A3 w3.heap.size 6 c3 p3 d 6 6 rfl w3 HR3.out.2.2.1 HR3.out.2.1 (by decide) HR3.out.2.2.2.1 (by decide) (by decide)).mono ?_
  rintro r w4 ⟨A4, n4, c4, p4, rfl, hp4, hn4, hr4⟩
  have h4 : n4 = 12 := hn4.out
  subst h4
  have HS4 := Lib.hid (HS3.out.next hr4.2.2.2.2 (by rfl) (by rfl) (by rfl) (by rfl))
  have HR4 := Lib.hid hr4
  clear hr4 z0 z1 z2 z3 z4 z5
  obtain ⟨z0, z1, z2, z3, z4, z5⟩ := six_cells HS4.out.1
  go_wp2_with fail
  refine (put_row A4 w4.heap.size 12 c4 p4 e 6 6 rfl w4 HR4.out.2.2.1 HR4.out.2.1 (by decide) HR4.out.2.2.2.1 (by decide) (by decide)).mono ?_
  rintro r w5 ⟨A5, n5, c5, p5, rfl, hp5, hn5, hr5⟩
  have h5 : n5 = 18 := hn5.out
  subst h5
  have HS5 := Lib.hid (HS4.out.next hr5.2.2.2.2 (by rfl) (by rfl) (by rfl) (by rfl))
  have HR5 := Lib.hid hr5
  clear hr5 z0 z1 z2 z3 z4 z5
  obtain ⟨z0, z1, z2, z3, z4, z5⟩ := six_cells HS5.out.1
  go_wp2_with fail
  refine (put_row A5 w5.heap.size 18 c5 p5 f 5 5 rfl w5 HR5.out.2.2.1 HR5.out.2.1 (by decide) HR5.out.2.2.2.1 (by decide) (by decide)).mono ?_
  rintro r w6 ⟨A6, n6, c6, p6, rfl, hp6, hn6, hr6⟩
  have h6 : n6 = 23 := hn6.out
  subst h6
  have HS6 := Lib.hid (HS5.out.next hr6.2.2.2.2 (by rfl) (by rfl) (by rfl) (by rfl))
  have HR6 := Lib.hid hr6
  clear hr6 z0 z1 z2 z3 z4 z5
  go_wp2
  go_ret
  have hp : bd = p6 := by rw [HBD.out, hp6.out, hp5.out, hp4.out, hp3.out, hp2.out, hp1.out]
  rw [hp]
  exact ⟨A6, c6, rfl, ownsRow_mono HR6.out.1 HS5.out.2.size, HR6.out.2.1, HR6.out.2.2.1, HR6.out.2.2.2.1, HS6.out.2⟩
theorem hd_nat {h : Hd.H} (hv : Hd.valid h) : ∃ a b c d e f : Nat, h = ⟨(a : Int), (b : Int), (c : Int), (d : Int), (e : Int), (f : Int)⟩ ∧ a ≤ 2 ∧ b ≤ 15 ∧ c ≤ 4294967295 ∧ d ≤ 281474976710655 ∧ e ≤ 281474976710655 ∧ f ≤ 549755813888 := by
  obtain ⟨a, b, c, d, e, f⟩ := h
  unfold Hd.valid at hv
  simp only at hv
  obtain ⟨a, rfl⟩ := Int.eq_ofNat_of_zero_le (show 0 ≤ a by omega)
  obtain ⟨b, rfl⟩ := Int.eq_ofNat_of_zero_le (show 0 ≤ b by omega)
  obtain ⟨c, rfl⟩ := Int.eq_ofNat_of_zero_le (show 0 ≤ c by omega)
  obtain ⟨d, rfl⟩ := Int.eq_ofNat_of_zero_le (show 0 ≤ d by omega)
  obtain ⟨e, rfl⟩ := Int.eq_ofNat_of_zero_le (show 0 ≤ e by omega)
  obtain ⟨f, rfl⟩ := Int.eq_ofNat_of_zero_le (show 0 ≤ f by omega)
  exact ⟨a, b, c, d, e, f, rfl, by omega, by omega, by omega, by omega, by omega, by omega⟩
set_option maxHeartbeats 1000000 in
theorem hdencode_any (a b c d e f x : Int) (w : World) (ht : Hid (TabW w)) (hz : 0 < w.heap.size) :
    Calls Tryd.prog 15 #[.agg #[.int .i64 a, .int .i64 b, .int .i64 c, .int .i64 d, .int .i64 e, .int .i64 f], .int .i64 x] w (FrEnc w (Hd.enc x ⟨a, b, c, d, e, f⟩) (Hd.err ⟨a, b, c, d, e, f⟩ x)) := by
  by_cases hv : Hd.valid ⟨a, b, c, d, e, f⟩
  · have HV : Hid (∀ W, Calls Tryd.prog 13 #[.agg #[.int .i64 a, .int .i64 b, .int .i64 c, .int .i64 d, .int .i64 e, .int .i64 f]] W fun r w' => r = .returned (.bool true) ∧ Below W.heap.size W w') := fun W => by
      have h := hdvalid_any a b c d e f W
      rwa [decide_eq_true hv] at h
    have HP : Hid (∀ W, Calls Tryd.prog 35 #[.agg #[.int .i64 a, .int .i64 b, .int .i64 c, .int .i64 d, .int .i64 e, .int .i64 f]] W fun r w' => ∃ A c', r = .returned (.slice A 23 c') ∧ Row W (Hd.body ⟨a, b, c, d, e, f⟩) 23 A c' w') := fun W => by
      obtain ⟨a', b', c', d', e', f', hh, q0, q1, q2, q3, q4, q5⟩ := hd_nat hv
      rw [hh]
      injection hh with h0 h1 h2 h3 h4 h5
      subst h0 h1 h2 h3 h4 h5
      exact hdpayload_any a' b' c' d' e' f' W q0 q1 q2 q3 q4 q5
    have he0 : Hd.err ⟨a, b, c, d, e, f⟩ x = Fr.err 1 0 x 23 := by
      rw [Hd.err_fr _ _ hv]
      unfold Fr.err
      by_cases hm : Fr.may 1 0 x
      · rw [if_pos hm, if_pos hm]; rfl
      · rw [if_neg hm, if_neg hm]
    have HEN : Hid (∀ W A c', Below w.heap.size w W → SlIs A 23 c' → Bs W W.heap.size A (Hd.body ⟨a, b, c, d, e, f⟩) → Calls Tryd.prog 20 #[.int .i64 1, .int .i64 0, .int .i64 x, .slice A 23 c'] W (FrEnc W (Hd.enc x ⟨a, b, c, d, e, f⟩) (Fr.err 1 0 x 23))) := fun W A c' hW h1 h2 =>
      frencode_any 1 0 x A W.heap.size 23 c' _ W (by decide) (Nat.le_refl _) h1 (Hd.body_length _) h2 (ht.out.below hW hz) (Nat.lt_of_lt_of_le hz hW.size)
    rw [he0]
    clear he0 hv
    generalize Hd.enc x ⟨a, b, c, d, e, f⟩ = en at *
    generalize Hd.body ⟨a, b, c, d, e, f⟩ = bd at *
    generalize Fr.err 1 0 x 23 = er at *
    unfold FrEnc at HEN ⊢
    have HS0 := Lib.hid (sd_new w #[.int .i64 a, .int .i64 b, .int .i64 c, .int .i64 d, .int .i64 e, .int .i64 f] 23)
    go_enter Tryd.func15, Tryd.ntmps15
    go_wp2_with fail
    generalize w.alloc (.cells #[.int .i64 a, .int .i64 b, .int .i64 c, .int .i64 d, .int .i64 e, .int .i64 f] 23) = w0 at *
    refine (HV.out _).mono ?_
    rintro r w1 ⟨rfl, hb1⟩
    have HS1 := Lib.hid (HS0.out.next hb1 (by rfl) (by rfl) (by rfl) (by rfl))
    clear hb1
    obtain ⟨z0, z1, z2, z3, z4, z5⟩ := six_cells HS1.out.1
    go_wp2_with fail
    refine (HP.out _).mono ?_
    rintro r w2 ⟨A2, c2, rfl, hr2⟩
    have HS2 := Lib.hid (HS1.out.next hr2.2.2.2.2 (by rfl) (by rfl) (by rfl) (by rfl))
    have HR2 := Lib.hid hr2
    clear hr2 z0 z1 z2 z3 z4 z5
    go_wp2_with fail
    refine (HEN.out _ _ _ HS2.out.2 HR2.out.2.2.1 HR2.out.2.2.2.1).mono ?_
    rintro r w3 ⟨A3, n3, c3, rfl, hs3, hy3, hx3, hb3⟩
    have HS3 := Lib.hid (HS2.out.next hb3 (by rfl) (by rfl) (by rfl) (by rfl))
    have HY3 := Lib.hid (And.intro hs3 (And.intro hy3 hx3))
    clear hs3 hy3 hx3 hb3
    go_wp2
    go_ret2
    exact ⟨A3, n3, c3, rfl, HY3.out.1, fun h => ⟨(HY3.out.2.1 h).1, ownsRow_mono (HY3.out.2.1 h).2 HS2.out.2.size⟩, HY3.out.2.2, HS3.out.2⟩
  · have HV : Hid (∀ W, Calls Tryd.prog 13 #[.agg #[.int .i64 a, .int .i64 b, .int .i64 c, .int .i64 d, .int .i64 e, .int .i64 f]] W fun r w' => r = .returned (.bool false) ∧ Below W.heap.size W w') := fun W => by
      have h := hdvalid_any a b c d e f W
      rwa [decide_eq_false hv] at h
    have he0 : Hd.err ⟨a, b, c, d, e, f⟩ x = 4 := by unfold Hd.err; rw [if_neg hv]
    rw [he0]
    clear he0 hv
    have HS0 := Lib.hid (sd_new w #[.int .i64 a, .int .i64 b, .int .i64 c, .int .i64 d, .int .i64 e, .int .i64 f] 23)
    go_enter Tryd.func15, Tryd.ntmps15
    go_wp2_with fail
    generalize w.alloc (.cells #[.int .i64 a, .int .i64 b, .int .i64 c, .int .i64 d, .int .i64 e, .int .i64 f] 23) = w0 at *
    refine (HV.out _).mono ?_
    rintro r w1 ⟨rfl, hb1⟩
    have HS1 := Lib.hid (HS0.out.next hb1 (by rfl) (by rfl) (by rfl) (by rfl))
    clear hb1
    go_wp2
    go_ret2
    exact ⟨none, 0, 0, rfl, sl_nil, fun e => absurd e (by decide), fun _ => rfl, HS1.out.2⟩
end Go.Proofs.YtjfgnojmdbfnmaaDoor
