/-
  The walk of the reference's Eq of superblocks.
-/
import Derived.Test.YtjfgnojmdbfnmaaDoorSbEqual
namespace Go.Proofs.YtjfgnojmdbfnmaaDoor
open Go.RowKit
theorem ne_of_beq {a b : Int} (h : (a == b) = true) : (a != b) = false := by rw [bne, h]; rfl
theorem ne_of_beq' {a b : Int} (h : (a == b) = false) : (a != b) = true := by rw [bne, h]; rfl
set_option maxHeartbeats 2000000 in
theorem refsbeq_any (a0 a1 a2 a3 a4 t0 t1 t2 t3 h0 h1 h2 h3 b0 b1 b2 b3 b4 u0 u1 u2 u3 g0 g1 g2 g3 : Int) (A A' : Option Addr) (B n n' c c' : Nat) (l l' : List Sb.L) (w : World) (hB : B ≤ w.heap.size) (hl : Hid (l.length = n)) (hl' : Hid (l'.length = n')) (hn : n ≤ 140737488355328) (hn' : n' ≤ 140737488355328) (hb : Hid (Ls w B A l)) (hb' : Hid (Ls w B A' l')) :
    Calls Tryd.prog 28 #[.agg #[.int .i64 a0, .int .i64 a1, .int .i64 a2, .int .i64 a3, .int .i64 a4, .int .i64 t0, .int .i64 t1, .int .i64 t2, .int .i64 t3, .int .i64 h0, .int .i64 h1, .int .i64 h2, .int .i64 h3, .slice A n c], .agg #[.int .i64 b0, .int .i64 b1, .int .i64 b2, .int .i64 b3, .int .i64 b4, .int .i64 u0, .int .i64 u1, .int .i64 u2, .int .i64 u3, .int .i64 g0, .int .i64 g1, .int .i64 g2, .int .i64 g3, .slice A' n' c']] w
      fun r w' => r = .returned (.bool (Sb.same ⟨a0, a1, a2, a3, a4, ⟨t0, t1, t2, t3⟩, ⟨h0, h1, h2, h3⟩, l⟩ ⟨b0, b1, b2, b3, b4, ⟨u0, u1, u2, u3⟩, ⟨g0, g1, g2, g3⟩, l'⟩)) ∧ Below w.heap.size w w' := by
  have HV : Hid (Sb.same ⟨a0, a1, a2, a3, a4, ⟨t0, t1, t2, t3⟩, ⟨h0, h1, h2, h3⟩, l⟩ ⟨b0, b1, b2, b3, b4, ⟨u0, u1, u2, u3⟩, ⟨g0, g1, g2, g3⟩, l'⟩ = (a0 == b0 && (a1 == b1 && (a2 == b2 && (a3 == b3 && (a4 == b4 && (Sb.sameL ⟨t0, t1, t2, t3⟩ ⟨u0, u1, u2, u3⟩ && (Sb.sameL ⟨h0, h1, h2, h3⟩ ⟨g0, g1, g2, g3⟩ && decide (l = l'))))))))) := rfl
  generalize Sb.same ⟨a0, a1, a2, a3, a4, ⟨t0, t1, t2, t3⟩, ⟨h0, h1, h2, h3⟩, l⟩ ⟨b0, b1, b2, b3, b4, ⟨u0, u1, u2, u3⟩, ⟨g0, g1, g2, g3⟩, l'⟩ = res at *
  have q1 := fun W : World => lay_eq W t0 t1 t2 t3 u0 u1 u2 u3
  have q2 := fun W : World => lay_eq W h0 h1 h2 h3 g0 g1 g2 g3
  generalize Sb.sameL ⟨t0, t1, t2, t3⟩ ⟨u0, u1, u2, u3⟩ = t5 at *
  generalize Sb.sameL ⟨h0, h1, h2, h3⟩ ⟨g0, g1, g2, g3⟩ = t6 at *
  have HD0 := Lib.hid (sd2_new w #[.int .i64 a0, .int .i64 a1, .int .i64 a2, .int .i64 a3, .int .i64 a4, .int .i64 t0, .int .i64 t1, .int .i64 t2, .int .i64 t3, .int .i64 h0, .int .i64 h1, .int .i64 h2, .int .i64 h3, .slice A n c] #[.int .i64 b0, .int .i64 b1, .int .i64 b2, .int .i64 b3, .int .i64 b4, .int .i64 u0, .int .i64 u1, .int .i64 u2, .int .i64 u3, .int .i64 g0, .int .i64 g1, .int .i64 g2, .int .i64 g3, .slice A' n' c'] 44 44)
  have HB0 := Lib.hid HD0.out.2.2
  have HL0 := Lib.hid (hb.out.below HB0.out hB)
  have HL0' := Lib.hid (hb'.out.below HB0.out hB)
  clear hb hb' hB
  have ways := eight_ways (a0 == b0) (a1 == b1) (a2 == b2) (a3 == b3) (a4 == b4) t5 t6
  go_enter Tryd.func28, Tryd.ntmps28
  go_upto_region 1 with fail
  generalize (w.alloc (.cells #[.int .i64 a0, .int .i64 a1, .int .i64 a2, .int .i64 a3, .int .i64 a4, .int .i64 t0, .int .i64 t1, .int .i64 t2, .int .i64 t3, .int .i64 h0, .int .i64 h1, .int .i64 h2, .int .i64 h3, .slice A n c] 44)).alloc (.cells #[.int .i64 b0, .int .i64 b1, .int .i64 b2, .int .i64 b3, .int .i64 b4, .int .i64 u0, .int .i64 u1, .int .i64 u2, .int .i64 u3, .int .i64 g0, .int .i64 g1, .int .i64 g2, .int .i64 g3, .slice A' n' c'] 44) = w0 at *
  obtain ⟨x0, x1, x2, x3, x4, x5, x6, x7, x8, x9, x10, x11, x12, x13⟩ := cells14 HD0.out.1
  obtain ⟨y0, y1, y2, y3, y4, y5, y6, y7, y8, y9, y10, y11, y12, y13⟩ := cells14 HD0.out.2.1
  rcases ways with k0 | ⟨k0, k1⟩ | ⟨k0, k1, k2⟩ | ⟨k0, k1, k2, k3⟩ | ⟨k0, k1, k2, k3, k4⟩ | ⟨k0, k1, k2, k3, k4, rfl⟩ | ⟨k0, k1, k2, k3, k4, rfl, rfl⟩ | ⟨k0, k1, k2, k3, k4, rfl, rfl⟩
  case inr.inr.inr.inr.inr.inr.inr =>
    have HR : Hid (res = decide (l = l')) := by (show _ = _; rw [HV.out, k0, k1, k2, k3, k4]; rfl)
    have j0 := ne_of_beq k0
    have j1 := ne_of_beq k1
    have j2 := ne_of_beq k2
    have j3 := ne_of_beq k3
    have j4 := ne_of_beq k4
    by_cases he : n = n'
    · subst he
      go_wp2
      go_loopw [5, 65] (fun xv iv wr => ∃ k q : Nat, k ≤ n ∧ iv = .int .i64 k ∧ wr = w0.drewN q ∧ Hid (∀ j, j < k → l.getD j Sb.L0 = l'.getD j Sb.L0)) (fun _ i _ => n - (intOf i).toNat)
      case atStart => exact ⟨0, 0, Nat.zero_le _, rfl, rfl, fun j hj => absurd hj (by omega)⟩
      case round =>
        obtain ⟨k, q, hk, rfl, rfl, hz⟩ := hrel
        by_cases hlt : k < n
        · obtain ⟨ad, rfl⟩ := ls_some HL0.out (k := k) (by rw [hl.out]; exact hlt)
          obtain ⟨ad', rfl⟩ := ls_some HL0'.out (k := k) (by rw [hl'.out]; exact hlt)
          obtain ⟨e0, e1, e2, e3, HX⟩ : ∃ a0 a1 a2 a3, Hid (l.getD k Sb.L0 = ⟨a0, a1, a2, a3⟩) := ⟨_, _, _, _, rfl⟩
          obtain ⟨f0, f1, f2, f3, HY⟩ : ∃ a0 a1 a2 a3, Hid (l'.getD k Sb.L0 = ⟨a0, a1, a2, a3⟩) := ⟨_, _, _, _, rfl⟩
          obtain ⟨m0, m1, m2, m3⟩ := HL0.out.at k (by rw [hl.out]; exact hlt) e0 e1 e2 e3 HX.out
          obtain ⟨p0, p1, p2, p3⟩ := HL0'.out.at k (by rw [hl'.out]; exact hlt) f0 f1 f2 f3 HY.out
          have hq := fun W : World => lay_eq W e0 e1 e2 e3 f0 f1 f2 f3
          have HS := Lib.hid (Sb.sameL_iff ⟨e0, e1, e2, e3⟩ ⟨f0, f1, f2, f3⟩)
          generalize Sb.sameL ⟨e0, e1, e2, e3⟩ ⟨f0, f1, f2, f3⟩ = t at *
          cases t with
          | true =>
            have HE := Lib.hid (HS.out.1 rfl)
            clear HS
            go_wp2
            go_quiet (fail)
            go_wp2
            go_roundw
            case rel =>
              refine ⟨k + 1, _, by omega, by go_num, rfl, fun j hj => ?_⟩
              rcases Nat.lt_or_ge j k with h | h
              · exact hz.out j h
              · obtain rfl : j = k := by omega
                exact HX.out.trans (HE.out.trans HY.out.symm)
            case measure => simp [intOf]; omega
          | false =>
            have HE : Hid (l ≠ l') := fun e => by
              have h1 := HX.out
              rw [e, HY.out] at h1
              have := HS.out.2 h1.symm
              cases this
            clear HS
            go_wp2
            go_quiet (fail)
            go_wp2
            go_ret
            exact ⟨ret_bool (by rw [HR.out, decide_eq_false HE.out]), below_drawn (below_drawn HB0.out _) _⟩
        · obtain rfl : k = n := by omega
          have HE : Hid (l = l') := lays_ext (hl.out.trans hl'.out.symm) (by rw [hl.out]; exact hz.out)
          go_wp2
          go_ret
          exact ⟨ret_bool (by rw [HR.out, decide_eq_true HE.out]), below_drawn HB0.out _⟩
    · have HE : Hid (l ≠ l') := fun e => he (by rw [← hl.out, ← hl'.out, e])
      have hd : ((n : Int) != (n' : Int)) = true := by rw [bne_iff_ne]; omega
      go_wp2
      go_ret
      exact ⟨ret_bool (by rw [HR.out, decide_eq_false HE.out]), HB0.out⟩
  all_goals
    first
      | have HR : Hid (res = false) := by (show _ = _; rw [HV.out, k0, k1, k2, k3, k4]; rfl)
      | have HR : Hid (res = false) := by (show _ = _; rw [HV.out, k0, k1, k2, k3]; rfl)
      | have HR : Hid (res = false) := by (show _ = _; rw [HV.out, k0, k1, k2]; rfl)
      | have HR : Hid (res = false) := by (show _ = _; rw [HV.out, k0, k1]; rfl)
      | have HR : Hid (res = false) := by (show _ = _; rw [HV.out, k0]; rfl)
    (first | have j0 := ne_of_beq k0 | have j0 := ne_of_beq' k0)
    (try first | have j1 := ne_of_beq k1 | have j1 := ne_of_beq' k1)
    (try first | have j2 := ne_of_beq k2 | have j2 := ne_of_beq' k2)
    (try first | have j3 := ne_of_beq k3 | have j3 := ne_of_beq' k3)
    (try first | have j4 := ne_of_beq k4 | have j4 := ne_of_beq' k4)
    go_wp2
    go_ret
    exact ⟨ret_bool HR.out.symm, HB0.out⟩
end Go.Proofs.YtjfgnojmdbfnmaaDoor
