/-
  The walks of slices.Equal at layouts, of superblock.Equal and of the reference's Eq.
-/
import Derived.Test.YtjfgnojmdbfnmaaDoorSbForm
import Derived.BigQuiet
namespace Go.Proofs.YtjfgnojmdbfnmaaDoor
open Go.RowKit
theorem at_field (ad : Addr) (j i : Nat) (h : 0 < i) : ad.add (j + i) = ⟨(ad.add j).block, (ad.add j).off + i, none⟩ := by
  unfold Addr.add
  by_cases hj : j = 0 <;> simp [hj, Nat.add_assoc] <;> omega
/-- The cells of one layout of a slice, as a load spells them. -/
theorem Ls.at {B : Nat} {w : World} {ad : Addr} {f : List Sb.L} (h : Ls w B (some ad) f) (k : Nat) (hk : k < f.length) (a b c d : Int) (e : f.getD k Sb.L0 = ⟨a, b, c, d⟩) :
    w.cell? (ad.add (k * 4)) = some (.int .i64 a) ∧ w.cell? ⟨(ad.add (k * 4)).block, (ad.add (k * 4)).off + 1, none⟩ = some (.int .i64 b) ∧ w.cell? ⟨(ad.add (k * 4)).block, (ad.add (k * 4)).off + 2, none⟩ = some (.int .i64 c) ∧ w.cell? ⟨(ad.add (k * 4)).block, (ad.add (k * 4)).off + 3, none⟩ = some (.int .i64 d) := by
  obtain ⟨ad', e1, _, h0, h1, h2, h3⟩ := h k hk
  injection e1 with e1
  subst e1
  rw [e] at h0 h1 h2 h3
  rw [at_field _ _ _ (by decide)] at h1 h2 h3
  exact ⟨h0, h1, h2, h3⟩
theorem ls_some {w : World} {B k : Nat} {A : Option Addr} {f : List Sb.L} (h : Ls w B A f) (hk : k < f.length) : ∃ ad, A = some ad := by
  obtain ⟨ad, e, _⟩ := h k hk
  exact ⟨ad, e⟩
theorem lays_ext {a b : List Sb.L} (hl : a.length = b.length) (h : ∀ j, j < a.length → a.getD j Sb.L0 = b.getD j Sb.L0) : a = b := by
  apply List.ext_getElem hl
  intro j h1 h2
  have e := h j h1
  rw [List.getD_eq_getElem?_getD, List.getD_eq_getElem?_getD, List.getElem?_eq_getElem h1, List.getElem?_eq_getElem h2] at e
  exact e
set_option maxHeartbeats 400000 in
theorem sleq_any (A A' : Option Addr) (B B' n n' c c' : Nat) (l l' : List Sb.L) (w : World) (hl : Hid (l.length = n)) (hl' : Hid (l'.length = n')) (hn : n ≤ 140737488355328) (hn' : n' ≤ 140737488355328) (hb : Hid (Ls w B A l)) (hb' : Hid (Ls w B' A' l')) :
    Calls Tryd.prog 48 #[.slice A n c, .slice A' n' c'] w (SaysQuiet (decide (l = l')) w) := by
  by_cases he : n = n'
  · subst he
    go_enter Tryd.func48, Tryd.ntmps48
    go_wp2
    go_loopw [5, 13] (fun xv iv wr => ∃ k q : Nat, k ≤ n ∧ iv = .int .i64 k ∧ wr = w.drewN q ∧ Hid (∀ j, j < k → l.getD j Sb.L0 = l'.getD j Sb.L0)) (fun _ i _ => n - (intOf i).toNat)
    case atStart => exact ⟨0, 0, Nat.zero_le _, rfl, rfl, fun j hj => absurd hj (by omega)⟩
    case round =>
      obtain ⟨k, q, hk, rfl, rfl, hz⟩ := hrel
      by_cases hlt : k < n
      · obtain ⟨ad, rfl⟩ := ls_some hb.out (k := k) (by rw [hl.out]; exact hlt)
        obtain ⟨ad', rfl⟩ := ls_some hb'.out (k := k) (by rw [hl'.out]; exact hlt)
        obtain ⟨a0, a1, a2, a3, HX⟩ : ∃ a0 a1 a2 a3, Hid (l.getD k Sb.L0 = ⟨a0, a1, a2, a3⟩) := ⟨_, _, _, _, rfl⟩
        obtain ⟨b0, b1, b2, b3, HY⟩ : ∃ a0 a1 a2 a3, Hid (l'.getD k Sb.L0 = ⟨a0, a1, a2, a3⟩) := ⟨_, _, _, _, rfl⟩
        obtain ⟨x0, x1, x2, x3⟩ := hb.out.at k (by rw [hl.out]; exact hlt) a0 a1 a2 a3 HX.out
        obtain ⟨y0, y1, y2, y3⟩ := hb'.out.at k (by rw [hl'.out]; exact hlt) b0 b1 b2 b3 HY.out
        have hq := fun W : World => lay_eq W a0 a1 a2 a3 b0 b1 b2 b3
        have HS := Lib.hid (Sb.sameL_iff ⟨a0, a1, a2, a3⟩ ⟨b0, b1, b2, b3⟩)
        generalize Sb.sameL ⟨a0, a1, a2, a3⟩ ⟨b0, b1, b2, b3⟩ = t at *
        cases t with
        | true =>
          have HE := Lib.hid (HS.out.1 rfl)
          clear HS
          go_wp2
          go_quiet (fail)
          go_wp2
          go_roundw
          case rel =>
            refine ⟨k + 1, _, by omega, by go_num, rfl, fun j hj => ?_⟩
            rcases Nat.lt_or_ge j k with h | h
            · exact hz.out j h
            · obtain rfl : j = k := by omega
              exact HX.out.trans (HE.out.trans HY.out.symm)
          case measure => simp [intOf]; omega
        | false =>
          have HE : Hid (l ≠ l') := fun e => by
            have h1 := HX.out
            rw [e, HY.out] at h1
            have := HS.out.2 h1.symm
            cases this
          clear HS
          go_wp2
          go_quiet (fail)
          go_wp2
          go_ret
          refine ⟨?_, _, World.drewN_drewN _ _ _⟩
          rw [decide_eq_false HE.out]; try rfl
      · obtain rfl : k = n := by omega
        have HE : Hid (l = l') := lays_ext (hl.out.trans hl'.out.symm) (by rw [hl.out]; exact hz.out)
        go_wp2
        go_ret
        refine ⟨?_, _, rfl⟩
        rw [decide_eq_true HE.out]; try rfl
  · have HE : Hid (l ≠ l') := fun e => he (by rw [← hl.out, ← hl'.out, e])
    have hd : ((n : Int) != (n' : Int)) = true := by rw [bne_iff_ne]; omega
    go_enter Tryd.func48, Tryd.ntmps48
    go_wp2
    go_ret
    refine ⟨?_, 0, rfl⟩
    rw [decide_eq_false HE.out]; try rfl
theorem eight_ways (t0 t1 t2 t3 t4 t5 t6 : Bool) : t0 = false ∨ (t0 = true ∧ t1 = false) ∨ (t0 = true ∧ t1 = true ∧ t2 = false) ∨ (t0 = true ∧ t1 = true ∧ t2 = true ∧ t3 = false) ∨ (t0 = true ∧ t1 = true ∧ t2 = true ∧ t3 = true ∧ t4 = false) ∨ (t0 = true ∧ t1 = true ∧ t2 = true ∧ t3 = true ∧ t4 = true ∧ t5 = false) ∨ (t0 = true ∧ t1 = true ∧ t2 = true ∧ t3 = true ∧ t4 = true ∧ t5 = true ∧ t6 = false) ∨ (t0 = true ∧ t1 = true ∧ t2 = true ∧ t3 = true ∧ t4 = true ∧ t5 = true ∧ t6 = true) := by
  cases t0 <;> cases t1 <;> cases t2 <;> cases t3 <;> cases t4 <;> cases t5 <;> cases t6 <;> simp
theorem sd2_new (w : World) (cs cs' : Array Value) (t t' : TypeId) : Sd2 w (.cells cs t (0, 0)) (.cells cs' t' (0, 0)) ((w.alloc (.cells cs t)).alloc (.cells cs' t')) := by
  have hs : (w.alloc (.cells cs t)).heap.size = w.heap.size + 1 := by simp
  exact ⟨(heap_alloc_old _ _ (by simp)).trans (heap_alloc_new w _), alloc_at hs.symm, ((Below.refl _ w).alloc (Nat.le_refl _) _).alloc (by simp) _⟩
set_option maxHeartbeats 2000000 in
theorem sbequal_any (a0 a1 a2 a3 a4 t0 t1 t2 t3 h0 h1 h2 h3 b0 b1 b2 b3 b4 u0 u1 u2 u3 g0 g1 g2 g3 : Int) (A A' : Option Addr) (B n n' c c' : Nat) (l l' : List Sb.L) (w : World) (hB : B ≤ w.heap.size) (hl : Hid (l.length = n)) (hl' : Hid (l'.length = n')) (hn : n ≤ 140737488355328) (hn' : n' ≤ 140737488355328) (hb : Hid (Ls w B A l)) (hb' : Hid (Ls w B A' l')) :
    Calls Tryd.prog 27 #[.agg #[.int .i64 a0, .int .i64 a1, .int .i64 a2, .int .i64 a3, .int .i64 a4, .int .i64 t0, .int .i64 t1, .int .i64 t2, .int .i64 t3, .int .i64 h0, .int .i64 h1, .int .i64 h2, .int .i64 h3, .slice A n c], .agg #[.int .i64 b0, .int .i64 b1, .int .i64 b2, .int .i64 b3, .int .i64 b4, .int .i64 u0, .int .i64 u1, .int .i64 u2, .int .i64 u3, .int .i64 g0, .int .i64 g1, .int .i64 g2, .int .i64 g3, .slice A' n' c']] w
      fun r w' => r = .returned (.bool (Sb.same ⟨a0, a1, a2, a3, a4, ⟨t0, t1, t2, t3⟩, ⟨h0, h1, h2, h3⟩, l⟩ ⟨b0, b1, b2, b3, b4, ⟨u0, u1, u2, u3⟩, ⟨g0, g1, g2, g3⟩, l'⟩)) ∧ Below w.heap.size w w' := by
  have HV : Hid (Sb.same ⟨a0, a1, a2, a3, a4, ⟨t0, t1, t2, t3⟩, ⟨h0, h1, h2, h3⟩, l⟩ ⟨b0, b1, b2, b3, b4, ⟨u0, u1, u2, u3⟩, ⟨g0, g1, g2, g3⟩, l'⟩ = (a0 == b0 && (a1 == b1 && (a2 == b2 && (a3 == b3 && (a4 == b4 && (Sb.sameL ⟨t0, t1, t2, t3⟩ ⟨u0, u1, u2, u3⟩ && (Sb.sameL ⟨h0, h1, h2, h3⟩ ⟨g0, g1, g2, g3⟩ && decide (l = l'))))))))) := rfl
  generalize Sb.same ⟨a0, a1, a2, a3, a4, ⟨t0, t1, t2, t3⟩, ⟨h0, h1, h2, h3⟩, l⟩ ⟨b0, b1, b2, b3, b4, ⟨u0, u1, u2, u3⟩, ⟨g0, g1, g2, g3⟩, l'⟩ = res at *
  have HS : Hid (∀ W, Below w.heap.size w W → Calls Tryd.prog 48 #[.slice A n c, .slice A' n' c'] W (SaysQuiet (decide (l = l')) W)) := fun W hW =>
    sleq_any A A' B B n n' c c' l l' W hl hl' hn hn' (hb.out.below hW hB) (hb'.out.below hW hB)
  have q1 := fun W : World => lay_eq W t0 t1 t2 t3 u0 u1 u2 u3
  have q2 := fun W : World => lay_eq W h0 h1 h2 h3 g0 g1 g2 g3
  generalize decide (l = l') = t7 at *
  generalize Sb.sameL ⟨t0, t1, t2, t3⟩ ⟨u0, u1, u2, u3⟩ = t5 at *
  generalize Sb.sameL ⟨h0, h1, h2, h3⟩ ⟨g0, g1, g2, g3⟩ = t6 at *
  have HD0 := Lib.hid (sd2_new w #[.int .i64 a0, .int .i64 a1, .int .i64 a2, .int .i64 a3, .int .i64 a4, .int .i64 t0, .int .i64 t1, .int .i64 t2, .int .i64 t3, .int .i64 h0, .int .i64 h1, .int .i64 h2, .int .i64 h3, .slice A n c] #[.int .i64 b0, .int .i64 b1, .int .i64 b2, .int .i64 b3, .int .i64 b4, .int .i64 u0, .int .i64 u1, .int .i64 u2, .int .i64 u3, .int .i64 g0, .int .i64 g1, .int .i64 g2, .int .i64 g3, .slice A' n' c'] 44 44)
  have HB0 := Lib.hid HD0.out.2.2
  clear hl hl' hn hn' hb hb' hB
  have ways := eight_ways (a0 == b0) (a1 == b1) (a2 == b2) (a3 == b3) (a4 == b4) t5 t6
  go_enter Tryd.func27, Tryd.ntmps27
  go_upto_region 1 with fail
  generalize (w.alloc (.cells #[.int .i64 a0, .int .i64 a1, .int .i64 a2, .int .i64 a3, .int .i64 a4, .int .i64 t0, .int .i64 t1, .int .i64 t2, .int .i64 t3, .int .i64 h0, .int .i64 h1, .int .i64 h2, .int .i64 h3, .slice A n c] 44)).alloc (.cells #[.int .i64 b0, .int .i64 b1, .int .i64 b2, .int .i64 b3, .int .i64 b4, .int .i64 u0, .int .i64 u1, .int .i64 u2, .int .i64 u3, .int .i64 g0, .int .i64 g1, .int .i64 g2, .int .i64 g3, .slice A' n' c'] 44) = w0 at *
  obtain ⟨x0, x1, x2, x3, x4, x5, x6, x7, x8, x9, x10, x11, x12, x13⟩ := cells14 HD0.out.1
  obtain ⟨y0, y1, y2, y3, y4, y5, y6, y7, y8, y9, y10, y11, y12, y13⟩ := cells14 HD0.out.2.1
  rcases ways with k0 | ⟨k0, k1⟩ | ⟨k0, k1, k2⟩ | ⟨k0, k1, k2, k3⟩ | ⟨k0, k1, k2, k3, k4⟩ | ⟨k0, k1, k2, k3, k4, rfl⟩ | ⟨k0, k1, k2, k3, k4, rfl, rfl⟩ | ⟨k0, k1, k2, k3, k4, rfl, rfl⟩
  all_goals
    first
      | have HR : Hid (res = t7) := by (show _ = _; rw [HV.out, k0, k1, k2, k3, k4]; rfl)
      | have HR : Hid (res = false) := by (show _ = _; rw [HV.out, k0, k1, k2, k3, k4]; rfl)
      | have HR : Hid (res = false) := by (show _ = _; rw [HV.out, k0, k1, k2, k3]; rfl)
      | have HR : Hid (res = false) := by (show _ = _; rw [HV.out, k0, k1, k2]; rfl)
      | have HR : Hid (res = false) := by (show _ = _; rw [HV.out, k0, k1]; rfl)
      | have HR : Hid (res = false) := by (show _ = _; rw [HV.out, k0]; rfl)
    go_wp2_with (go_at_call 48; refine (HS.out _ HB0.out).mono ?_; rintro r w' ⟨rfl, q, rfl⟩)
    go_ret
    first
      | exact ⟨ret_bool HR.out.symm, HB0.out⟩
      | exact ⟨ret_bool HR.out.symm, below_drawn HB0.out q⟩
end Go.Proofs.YtjfgnojmdbfnmaaDoor
