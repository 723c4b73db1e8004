/-
  The program's capacity and hasRoom; what stays true of fewer regions.
-/
import Derived.Test.YtmkilbogdenljaaSlPick
import Derived.Test.YtmkilbogdenljaaSlRefs2
set_option maxRecDepth 100000
namespace Go.Proofs.Ytmkilbogdenljaa
open Go.RowKit
theorem Sl.free_drop {t : Sb.L} {l : List Gm.R} (h : Gm.free t l ≠ []) (k : Nat) : Gm.free t (l.drop k) ≠ [] := by
  intro e
  obtain ⟨s, hs⟩ := List.exists_mem_of_ne_nil _ h
  have hm : s ∈ Gm.free t (l.drop k) := by
    unfold Gm.free at hs ⊢
    split at hs
    · next hf =>
      rw [if_pos hf]
      unfold Gm.freeTo at hs ⊢
      obtain ⟨h1, h2⟩ := List.mem_filter.1 hs
      refine List.mem_filter.2 ⟨h1, ?_⟩
      simp only [Bool.not_eq_true'] at h2 ⊢
      unfold Gm.taken at h2 ⊢
      rw [List.any_eq_false] at h2 ⊢
      exact fun r hr => h2 r (List.mem_of_mem_drop hr)
    · cases hs
  rw [e] at hm
  cases hm
theorem Sl.bytes_drop (l : List Gm.R) (k : Nat) : Sl.bytes (l.drop k) ≤ Sl.bytes l := by
  have h := Sl.bytes_append (l.take k) (l.drop k)
  rw [List.take_append_drop] at h
  have := (Sl.bytes_ge (l.take k)).1
  omega
theorem Sl.ok_drop {t : Sb.L} {l : List Gm.R} (h : Sl.ok t l) (k : Nat) : Sl.ok t (l.drop k) := ⟨Sl.free_drop h.1 k, Int.le_trans (Sl.bytes_drop l k) h.2⟩
theorem Sl.not_ok {t : Sb.L} {l : List Gm.R} {h : Nat} (hn : ¬ Sl.ok t (l.drop h)) (x : Nat) (hx : x ≤ h) : ¬ Sl.ok t (l.drop x) := fun e => hn (by
  have := Sl.ok_drop e (h - x)
  rwa [List.drop_drop, show x + (h - x) = h by omega] at this)
set_option maxHeartbeats 2000000 in
theorem slcapacity_any (A : Option Addr) (lo B n cap : Nat) (live : List Gm.R) (w : World) (hB : B ≤ w.heap.size) (hn : Hid (live.length = n)) (hn2 : n ≤ 100000) (hb : Hid (Arr regS w lo B A live)) :
    Calls Try.prog 47 #[.slice A n cap] w fun e w' => e = .returned (.int .i64 (Sl.bytes live)) ∧ Below w.heap.size w w' := by
  have HE : Hid (Sl.bytes (live.take n) = Sl.bytes live) := by
    show _ = _
    rw [List.take_of_length_le (by rw [hn.out]; exact Nat.le_refl _)]
  have HG : Hid (∀ k, k ≤ n → 0 ≤ Sl.bytes (live.take k) ∧ Sl.bytes (live.take k) ≤ 120773 * (n : Int)) := fun k hk => by
    have h := Sl.bytes_ge (live.take k)
    rw [List.length_take] at h
    refine ⟨h.1, Int.le_trans h.2 (by omega)⟩
  have HN : Hid (∀ k, k < n → Sl.bytes (live.take (k + 1)) = Sl.bytes (live.take k) + Gm.cap (live.getD k Gm.R0).l) := fun k hk => Sl.bytes_next live k (by rw [hn.out]; exact hk)
  have HZ : Hid (Sl.bytes (live.take 0) = 0) := rfl
  rw [← HE.out]
  generalize hby : (fun k : Nat => Sl.bytes (live.take k)) = by_ at *
  have e : ∀ k, Sl.bytes (live.take k) = by_ k := fun k => by rw [← hby]
  simp only [e] at HE HG HN HZ ⊢
  clear hby e HE
  go_enter Try.func47, Try.ntmps47
  go_wp2_with fail
  go_loopw [3, 8] (fun sv iv wr => ∃ k : Nat, k ≤ n ∧ iv = .int .i64 (k : Int) ∧ sv = .int .i64 (by_ k) ∧ Hid (Below w.heap.size w wr)) (fun _ i _ => n - (intOf i).toNat)
  case atStart => exact ⟨0, Nat.zero_le _, rfl, by rw [HZ.out], Below.refl _ _⟩
  case round =>
    obtain ⟨k, hk, rfl, rfl, HB⟩ := hrel
    by_cases hlt : k < n
    · obtain ⟨r, hr⟩ : ∃ r, live.getD k Gm.R0 = r := ⟨_, rfl⟩
      obtain ⟨ad, rfl⟩ := hb.out.some (k := k) (by rw [hn.out]; exact hlt)
      obtain ⟨m0, m1, m2, m3, m4, m5, m6, m7, m8, m9⟩ := regs_at (hb.out.below HB.out hB) k (by rw [hn.out]; exact hlt) r hr
      have HNX := Lib.hid (HN.out k hlt)
      rw [hr] at HNX
      have hg := HG.out k (by omega)
      have hc := Sl.cap_ge r.l
      have CP : Hid (∀ W, Calls Try.prog 48 #[.agg #[.int .i64 r.l.id, .int .i64 r.l.ver, .int .i64 r.l.rs, .int .i64 r.l.reg]] W fun r' w' => r' = .returned (.int .i64 (Gm.cap r.l)) ∧ Below W.heap.size W w') := fun W => gmcap_any r.l.id r.l.ver r.l.rs r.l.reg W
      clear hr
      go_upto_region 5 with fail
      have HX := Lib.hid (sd_new wr #[.int .i64 r.ver, .int .i64 r.slot, .int .i64 r.lay, .int .i64 r.seq, .int .i64 r.tail, .int .i64 r.now, .int .i64 r.l.id, .int .i64 r.l.ver, .int .i64 r.l.rs, .int .i64 r.l.reg] 40)
      have HB2 : Hid (Below w.heap.size w (wr.alloc (.cells #[.int .i64 r.ver, .int .i64 r.slot, .int .i64 r.lay, .int .i64 r.seq, .int .i64 r.tail, .int .i64 r.now, .int .i64 r.l.id, .int .i64 r.l.ver, .int .i64 r.l.rs, .int .i64 r.l.reg] 40))) := HB.out.alloc HB.out.size _
      clear m0 m1 m2 m3 m4 m5 m6 m7 m8 m9 HB
      generalize wr.alloc (.cells #[.int .i64 r.ver, .int .i64 r.slot, .int .i64 r.lay, .int .i64 r.seq, .int .i64 r.tail, .int .i64 r.now, .int .i64 r.l.id, .int .i64 r.l.ver, .int .i64 r.l.rs, .int .i64 r.l.reg] 40) = w2 at *
      obtain ⟨m0, m1, m2, m3, m4, m5, m6, m7, m8, m9⟩ := ten_cells HX.out.1
      have hw : wrap64 (by_ k + Gm.cap r.l) = by_ (k + 1) := by rw [HNX.out]; unfold wrap64; omega
      generalize Gm.cap r.l = cp at *
      go_wp2_with fail
      refine (CP.out _).mono ?_
      rintro e w4 ⟨rfl, hb4⟩
      have HB4 : Hid (Below w.heap.size w w4) := HB2.out.trans (hb4.mono HB2.out.size)
      clear hb4 HX m0 m1 m2 m3 m4 m5 m6 m7 m8 m9 HB2
      go_wp2_with fail
      exact ⟨⟨k + 1, by omega, by go_num, by rw [HNX.out], HB4⟩, by simp [intOf]; omega⟩
    · obtain rfl : k = n := by omega
      go_wp2_with fail
      go_ret
      exact ⟨rfl, HB.out⟩
set_option maxHeartbeats 4000000 in
theorem slroom_any (a b c d : Int) (A : Option Addr) (lo B n cap : Nat) (live : List Gm.R) (w : World) (hB : B ≤ w.heap.size) (hn : Hid (live.length = n)) (hn2 : n ≤ 100000) (hb : Hid (Arr regS w lo B A live)) :
    Calls Try.prog 36 #[.agg #[.int .i64 a, .int .i64 b, .int .i64 c, .int .i64 d], .slice A n cap] w fun e w' => e = .returned (.bool (decide (Sl.ok ⟨a, b, c, d⟩ live))) ∧ Below w.heap.size w w' := by
  have CC : Hid (∀ W, Below w.heap.size w W → Calls Try.prog 16 #[.agg #[.int .i64 a, .int .i64 b, .int .i64 c, .int .i64 d], .slice A n cap] W fun e w' => e = .returned (.tuple #[.int .i64 (Sl.choose ⟨a, b, c, d⟩ live), .bool (decide (Gm.free ⟨a, b, c, d⟩ live ≠ []))]) ∧ Below W.heap.size W w') := fun W hW =>
    slchoose_any a b c d A lo B n cap live W (Nat.le_trans hB hW.size) hn hn2 (Lib.hid (hb.out.below hW hB))
  have CB : Hid (∀ W, Below w.heap.size w W → Calls Try.prog 47 #[.slice A n cap] W fun e w' => e = .returned (.int .i64 (Sl.bytes live)) ∧ Below W.heap.size W w') := fun W hW =>
    slcapacity_any A lo B n cap live W (Nat.le_trans hB hW.size) hn hn2 (Lib.hid (hb.out.below hW hB))
  have CP : Hid (∀ W, Calls Try.prog 48 #[.agg #[.int .i64 a, .int .i64 b, .int .i64 c, .int .i64 d]] W fun r' w' => r' = .returned (.int .i64 (Gm.cap ⟨a, b, c, d⟩)) ∧ Below W.heap.size W w') := fun W => gmcap_any a b c d W
  have HS0 := Lib.hid (sd_new w #[.int .i64 a, .int .i64 b, .int .i64 c, .int .i64 d] 23)
  by_cases hf : Gm.free ⟨a, b, c, d⟩ live ≠ []
  · have hform : Sb.form ⟨a, b, c, d⟩ := Decidable.by_contra fun h => hf (by unfold Gm.free; rw [if_neg h])
    have hnum := Gm.form_nums hform
    simp only at hnum
    have hcg := Sl.cap_ge ⟨a, b, c, d⟩
    have HOK : Hid (decide (Sl.ok ⟨a, b, c, d⟩ live) = decide (Sl.bytes live ≤ (d - 1) * Gm.cap ⟨a, b, c, d⟩)) := decide_eq_decide.2 ⟨fun h => h.2, fun h => ⟨hf, h⟩⟩
    rw [decide_eq_true hf] at CC
    generalize Sl.choose ⟨a, b, c, d⟩ live = x at *
    generalize Gm.cap ⟨a, b, c, d⟩ = C at *
    generalize decide (Sl.ok ⟨a, b, c, d⟩ live) = R at *
    have hz : 0 ≤ (d - 1) * C ∧ (d - 1) * C ≤ 15 * 120773 := by
      refine ⟨Int.mul_nonneg (by omega) hcg.1, Int.le_trans (Int.mul_le_mul_of_nonneg_right (show d - 1 ≤ 15 by omega) hcg.1) (by omega)⟩
    have w1' : wrap64 (d - 1) = d - 1 := by unfold wrap64; omega
    obtain ⟨Z, hZ⟩ : ∃ Z, (d - 1) * C = Z := ⟨_, rfl⟩
    rw [hZ] at HOK hz
    have w2' : wrap64 ((d - 1) * C) = Z := by rw [hZ]; unfold wrap64; omega
    have w3' : IntKind.i64.wrap (d - 1) = d - 1 := by rw [IntKind.wrap_i64]; omega
    have w4' : IntKind.i64.wrap ((d - 1) * C) = Z := by rw [hZ, IntKind.wrap_i64]; omega
    clear hcg hz hform hnum hf hZ hn hb
    generalize Sl.bytes live = Y at *
    go_enter Try.func36, Try.ntmps36
    go_upto_region 1 with fail
    generalize w.alloc (.cells #[.int .i64 a, .int .i64 b, .int .i64 c, .int .i64 d] 23) = w0 at *
    obtain ⟨z0, z1, z2, z3⟩ := four_cells HS0.out.1
    go_wp2_with fail
    refine (CC.out _ HS0.out.2).mono ?_
    rintro e w1 ⟨rfl, hb1⟩
    have HS1 := Lib.hid (HS0.out.next hb1 (by rfl) (by rfl) (by rfl) (by rfl))
    clear hb1 z0 z1 z2 z3 HS0 CC
    obtain ⟨z0, z1, z2, z3⟩ := four_cells HS1.out.1
    have HS3 : Hid (Sd w w.heap.size (.cells #[.int .i64 a, .int .i64 b, .int .i64 c, .int .i64 d] 23 (0, 0)) w1.drew) := sd_run HS1.out 1
    have HB3 : Hid (Below w.heap.size w w1.drew) := below_drawn HS1.out.2 1
    go_upto_region 2 with fail
    go_cut [4] (fun v wx => v = .bool (decide (Y ≤ Z)) ∧ Hid (Below w.heap.size w wx))
    case first =>
      go_region_with (first
        | (go_at_call 47; ((with_reducible refine (CB.out _ HB3.out).mono ?_); rintro e w4 ⟨rfl, hb4⟩; have HS4 := Lib.hid (HS3.out.next hb4 (by rfl) (by rfl) (by rfl) (by rfl)); clear hb4; obtain ⟨y0, y1, y2, y3⟩ := four_cells HS4.out.1))
        | (go_at_call 48; ((with_reducible refine (CP.out _).mono ?_); rintro e w5 ⟨rfl, hb5⟩; have HS5 := Lib.hid (HS4.out.next hb5 (by rfl) (by rfl) (by rfl) (by rfl)); clear hb5; obtain ⟨x0, x1, x2, x3⟩ := four_cells HS5.out.1)))
      all_goals
        go_wp2
        go_meet
        exact ⟨by first | rw [w4'] | rw [w2'] | rfl, HS5.out.2⟩
    case rest =>
      obtain ⟨rfl, HB6⟩ := hcut
      go_wp2_with fail
      go_ret
      exact ⟨by rw [HOK.out]; rfl, HB6.out⟩
  · have HOK : Hid (decide (Sl.ok ⟨a, b, c, d⟩ live) = false) := decide_eq_false fun h => hf h.1
    rw [decide_eq_false hf] at CC
    generalize Sl.choose ⟨a, b, c, d⟩ live = x at *
    generalize decide (Sl.ok ⟨a, b, c, d⟩ live) = R at *
    clear CB CP hf hn hb
    go_enter Try.func36, Try.ntmps36
    go_upto_region 1 with fail
    generalize w.alloc (.cells #[.int .i64 a, .int .i64 b, .int .i64 c, .int .i64 d] 23) = w0 at *
    obtain ⟨z0, z1, z2, z3⟩ := four_cells HS0.out.1
    go_wp2_with fail
    refine (CC.out _ HS0.out.2).mono ?_
    rintro e w1 ⟨rfl, hb1⟩
    have HS1 := Lib.hid (HS0.out.next hb1 (by rfl) (by rfl) (by rfl) (by rfl))
    clear hb1 z0 z1 z2 z3 HS0 CC
    obtain ⟨z0, z1, z2, z3⟩ := four_cells HS1.out.1
    go_wp2_with fail
    go_quiet (fail)
    go_wp2_with fail
    go_ret
    exact ⟨by rw [HOK.out]; rfl, below_drawn HS1.out.2 _⟩
end Go.Proofs.Ytmkilbogdenljaa
