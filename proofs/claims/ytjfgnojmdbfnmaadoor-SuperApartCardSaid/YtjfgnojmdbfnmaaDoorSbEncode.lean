/-
  The walk of superblock.Encode.
-/
import Derived.Test.YtjfgnojmdbfnmaaDoorSbPut
import Derived.Test.YtjfgnojmdbfnmaaDoorSbValid
namespace Go.Proofs.YtjfgnojmdbfnmaaDoor
open Go.RowKit
theorem valid_wr {s : Sb.S} (hv : Sb.valid s) : Sb.Wr s.t ∧ Sb.Wr s.h ∧ s.f.length ≤ 2 ∧ (s.f.length = 2 → Sb.Wr (s.f.getD 1 Sb.L0)) ∧ (0 ≤ s.phase ∧ s.phase ≤ 3) := by
  have hf := Sb.valid_f hv
  refine ⟨.inl hv.1.2.2.2.2, ?_⟩
  rcases hf with ⟨h, h2, h3⟩ | ⟨h, h2, h3⟩ | ⟨g, h, h2, hg, h3⟩
  · rw [h, h3]
    exact ⟨.inr h2, by decide, (fun e => by cases e), by decide⟩
  · rw [h, h3]
    exact ⟨.inl h2, by simp, (fun e => by cases e), by decide⟩
  · rw [h, h3]
    exact ⟨.inl h2, by simp, fun _ => .inl hg, by decide⟩
theorem sbpayload_any (a0 a1 a2 a3 a4 t0 t1 t2 t3 h0 h1 h2 h3 : Int) (A : Option Addr) (B n c : Nat) (l : List Sb.L) (w : World) (hB : B ≤ w.heap.size) (hl : Hid (l.length = n)) (hb : Hid (Ls w B A l)) (hv : Sb.valid ⟨a0, a1, a2, a3, a4, ⟨t0, t1, t2, t3⟩, ⟨h0, h1, h2, h3⟩, l⟩) :
    Calls Tryd.prog 49 #[.agg #[.int .i64 a0, .int .i64 a1, .int .i64 a2, .int .i64 a3, .int .i64 a4, .int .i64 t0, .int .i64 t1, .int .i64 t2, .int .i64 t3, .int .i64 h0, .int .i64 h1, .int .i64 h2, .int .i64 h3, .slice A n c]] w fun r w' => ∃ A' n' c', r = .returned (.slice A' n' c') ∧ Row w (Sb.body ⟨a0, a1, a2, a3, a4, ⟨t0, t1, t2, t3⟩, ⟨h0, h1, h2, h3⟩, l⟩) n' A' c' w' := by
  obtain ⟨w1, w2, w3, w4, w5⟩ := valid_wr hv
  obtain ⟨⟨v0, v1, v2, v3, -⟩, -⟩ := hv
  simp only [hl.out] at v0 v1 v2 v3 w1 w2 w3 w4 w5
  obtain ⟨a0, rfl⟩ := Int.eq_ofNat_of_zero_le (show 0 ≤ a0 by omega)
  obtain ⟨a1, rfl⟩ := Int.eq_ofNat_of_zero_le (show 0 ≤ a1 by omega)
  obtain ⟨a2, rfl⟩ := Int.eq_ofNat_of_zero_le (show 0 ≤ a2 by omega)
  obtain ⟨a3, rfl⟩ := Int.eq_ofNat_of_zero_le (show 0 ≤ a3 by omega)
  obtain ⟨a4, rfl⟩ := Int.eq_ofNat_of_zero_le (show 0 ≤ a4 by omega)
  exact sbpayload_nat a0 a1 a2 a3 a4 t0 t1 t2 t3 h0 h1 h2 h3 A B n c l w hB hl hb (by omega) (by omega) (by omega) (by omega) (by omega) w1 w2 w3 w4
set_option maxHeartbeats 1000000 in
theorem sbencode_any (a0 a1 a2 a3 a4 t0 t1 t2 t3 h0 h1 h2 h3 x : Int) (A : Option Addr) (B n c : Nat) (l : List Sb.L) (w : World) (hB : B ≤ w.heap.size) (hs : SlIs A n c) (hl : Hid (l.length = n)) (hb : Hid (Ls w B A l)) (ht : Hid (TabW w)) (hz : 0 < w.heap.size) :
    Calls Tryd.prog 29 #[.agg #[.int .i64 a0, .int .i64 a1, .int .i64 a2, .int .i64 a3, .int .i64 a4, .int .i64 t0, .int .i64 t1, .int .i64 t2, .int .i64 t3, .int .i64 h0, .int .i64 h1, .int .i64 h2, .int .i64 h3, .slice A n c], .int .i64 x] w (FrEnc w (Sb.enc x ⟨a0, a1, a2, a3, a4, ⟨t0, t1, t2, t3⟩, ⟨h0, h1, h2, h3⟩, l⟩) (Sb.err ⟨a0, a1, a2, a3, a4, ⟨t0, t1, t2, t3⟩, ⟨h0, h1, h2, h3⟩, l⟩ x)) := by
  have HV : Hid (∀ W, Below w.heap.size w W → Calls Tryd.prog 25 #[.agg #[.int .i64 a0, .int .i64 a1, .int .i64 a2, .int .i64 a3, .int .i64 a4, .int .i64 t0, .int .i64 t1, .int .i64 t2, .int .i64 t3, .int .i64 h0, .int .i64 h1, .int .i64 h2, .int .i64 h3, .slice A n c]] W fun r w' => r = .returned (.bool (decide (Sb.valid ⟨a0, a1, a2, a3, a4, ⟨t0, t1, t2, t3⟩, ⟨h0, h1, h2, h3⟩, l⟩))) ∧ Below W.heap.size W w') := fun W hW =>
    sbvalid_any a0 a1 a2 a3 a4 t0 t1 t2 t3 h0 h1 h2 h3 A B n c l W (Nat.le_trans hB hW.size) hs hl (hb.out.below hW hB)
  have HS0 := Lib.hid (sd_new w #[.int .i64 a0, .int .i64 a1, .int .i64 a2, .int .i64 a3, .int .i64 a4, .int .i64 t0, .int .i64 t1, .int .i64 t2, .int .i64 t3, .int .i64 h0, .int .i64 h1, .int .i64 h2, .int .i64 h3, .slice A n c] 44)
  by_cases hv : Sb.valid ⟨a0, a1, a2, a3, a4, ⟨t0, t1, t2, t3⟩, ⟨h0, h1, h2, h3⟩, l⟩
  · rw [decide_eq_true hv] at HV
    have HP : Hid (∀ W, Below w.heap.size w W → Calls Tryd.prog 49 #[.agg #[.int .i64 a0, .int .i64 a1, .int .i64 a2, .int .i64 a3, .int .i64 a4, .int .i64 t0, .int .i64 t1, .int .i64 t2, .int .i64 t3, .int .i64 h0, .int .i64 h1, .int .i64 h2, .int .i64 h3, .slice A n c]] W fun r w' => ∃ A' n' c', r = .returned (.slice A' n' c') ∧ Row W (Sb.body ⟨a0, a1, a2, a3, a4, ⟨t0, t1, t2, t3⟩, ⟨h0, h1, h2, h3⟩, l⟩) n' A' c' w') := fun W hW =>
      sbpayload_any a0 a1 a2 a3 a4 t0 t1 t2 t3 h0 h1 h2 h3 A B n c l W (Nat.le_trans hB hW.size) hl (hb.out.below hW hB) hv
    have HBL := Lib.hid (Sb.body_le ⟨a0, a1, a2, a3, a4, ⟨t0, t1, t2, t3⟩, ⟨h0, h1, h2, h3⟩, l⟩)
    have he0 : ∀ n', n' ≤ 43 → Fr.err 3 0 x n' = Sb.err ⟨a0, a1, a2, a3, a4, ⟨t0, t1, t2, t3⟩, ⟨h0, h1, h2, h3⟩, l⟩ x := fun n' hn' => by
      rw [Sb.err_fr _ _ hv]
      unfold Fr.err
      by_cases hm : Fr.may 3 0 x
      · rw [if_pos hm, if_pos hm, if_neg (by omega)]
      · rw [if_neg hm, if_neg hm]
    have HEN : Hid (∀ W A n' c', Below w.heap.size w W → SlIs A n' c' → (Sb.body ⟨a0, a1, a2, a3, a4, ⟨t0, t1, t2, t3⟩, ⟨h0, h1, h2, h3⟩, l⟩).length = n' → Bs W W.heap.size A (Sb.body ⟨a0, a1, a2, a3, a4, ⟨t0, t1, t2, t3⟩, ⟨h0, h1, h2, h3⟩, l⟩) → Calls Tryd.prog 20 #[.int .i64 3, .int .i64 0, .int .i64 x, .slice A n' c'] W (FrEnc W (Sb.enc x ⟨a0, a1, a2, a3, a4, ⟨t0, t1, t2, t3⟩, ⟨h0, h1, h2, h3⟩, l⟩) (Sb.err ⟨a0, a1, a2, a3, a4, ⟨t0, t1, t2, t3⟩, ⟨h0, h1, h2, h3⟩, l⟩ x))) := fun W A n' c' hW h1 h3 h2 => by
      have h := frencode_any 3 0 x A W.heap.size n' c' _ W (by decide) (Nat.le_refl _) h1 h3 h2 (ht.out.below hW hz) (Nat.lt_of_lt_of_le hz hW.size)
      rwa [he0 n' (by rw [← h3]; exact HBL.out)] at h
    clear he0 hv HBL hl hb hs hB
    generalize Sb.enc x ⟨a0, a1, a2, a3, a4, ⟨t0, t1, t2, t3⟩, ⟨h0, h1, h2, h3⟩, l⟩ = en at *
    generalize Sb.body ⟨a0, a1, a2, a3, a4, ⟨t0, t1, t2, t3⟩, ⟨h0, h1, h2, h3⟩, l⟩ = bd at *
    generalize Sb.err ⟨a0, a1, a2, a3, a4, ⟨t0, t1, t2, t3⟩, ⟨h0, h1, h2, h3⟩, l⟩ x = er at *
    unfold FrEnc at HEN ⊢
    go_enter Tryd.func29, Tryd.ntmps29
    go_upto_region 1 with fail
    generalize w.alloc (.cells _ 44) = w0 at *
    obtain ⟨x0, x1, x2, x3, x4, x5, x6, x7, x8, x9, x10, x11, x12, x13⟩ := cells14 HS0.out.1
    go_wp2_with fail
    refine (HV.out _ HS0.out.2).mono ?_
    rintro r w1 ⟨rfl, hb1⟩
    have HS1 := Lib.hid (HS0.out.next hb1 (by rfl) (by rfl) (by rfl) (by rfl))
    clear hb1 x0 x1 x2 x3 x4 x5 x6 x7 x8 x9 x10 x11 x12 x13
    obtain ⟨x0, x1, x2, x3, x4, x5, x6, x7, x8, x9, x10, x11, x12, x13⟩ := cells14 HS1.out.1
    go_wp2_with fail
    refine (HP.out _ HS1.out.2).mono ?_
    rintro r w2 ⟨A2, n2, c2, rfl, hr2⟩
    have HS2 := Lib.hid (HS1.out.next hr2.2.2.2.2 (by rfl) (by rfl) (by rfl) (by rfl))
    have HR2 := Lib.hid hr2
    clear hr2 x0 x1 x2 x3 x4 x5 x6 x7 x8 x9 x10 x11 x12 x13
    go_wp2_with fail
    refine (HEN.out _ _ _ _ HS2.out.2 HR2.out.2.2.1 HR2.out.2.1 HR2.out.2.2.2.1).mono ?_
    rintro r w3 ⟨A3, n3, c3, rfl, hs3, hy3, hx3, hb3⟩
    have HS3 := Lib.hid (HS2.out.next hb3 (by rfl) (by rfl) (by rfl) (by rfl))
    have HY3 := Lib.hid (And.intro hs3 (And.intro hy3 hx3))
    clear hs3 hy3 hx3 hb3
    go_wp2
    go_ret2
    exact ⟨A3, n3, c3, rfl, HY3.out.1, fun h => ⟨(HY3.out.2.1 h).1, ownsRow_mono (HY3.out.2.1 h).2 HS2.out.2.size⟩, HY3.out.2.2, HS3.out.2⟩
  · rw [decide_eq_false hv] at HV
    have he0 : Sb.err ⟨a0, a1, a2, a3, a4, ⟨t0, t1, t2, t3⟩, ⟨h0, h1, h2, h3⟩, l⟩ x = 4 := by unfold Sb.err; rw [if_neg hv]
    rw [he0]
    clear he0 hv hl hb hs hB
    go_enter Tryd.func29, Tryd.ntmps29
    go_upto_region 1 with fail
    generalize w.alloc (.cells _ 44) = w0 at *
    obtain ⟨x0, x1, x2, x3, x4, x5, x6, x7, x8, x9, x10, x11, x12, x13⟩ := cells14 HS0.out.1
    go_wp2_with fail
    refine (HV.out _ HS0.out.2).mono ?_
    rintro r w1 ⟨rfl, hb1⟩
    have HS1 := Lib.hid (HS0.out.next hb1 (by rfl) (by rfl) (by rfl) (by rfl))
    clear hb1
    go_wp2
    go_ret2
    exact ⟨none, 0, 0, rfl, sl_nil, fun e => absurd e (by decide), fun _ => rfl, HS1.out.2⟩
end Go.Proofs.YtjfgnojmdbfnmaaDoor
