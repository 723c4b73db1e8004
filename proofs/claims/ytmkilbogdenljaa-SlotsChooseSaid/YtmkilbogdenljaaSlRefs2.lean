/-
  The reference's sum of capacities, Choose, Spare, and two lists of regions compared.
-/
import Derived.Test.YtmkilbogdenljaaSlRefs
set_option maxRecDepth 100000
namespace Go.Proofs.Ytmkilbogdenljaa
open Go.RowKit
set_option maxHeartbeats 2000000 in
theorem refslbytes_any (A : Option Addr) (lo B n cap : Nat) (live : List Gm.R) (w : World) (hB : B ≤ w.heap.size) (hn : Hid (live.length = n)) (hn2 : n ≤ 100000) (hb : Hid (Arr regS w lo B A live)) :
    Calls Try.prog 37 #[.slice A n cap] w fun e w' => e = .returned (.int .i64 (Sl.bytes live)) ∧ Below w.heap.size w w' := by
  have HE : Hid (Sl.bytes (live.take n) = Sl.bytes live) := by
    show _ = _
    rw [List.take_of_length_le (by rw [hn.out]; exact Nat.le_refl _)]
  have HG : Hid (∀ k, k ≤ n → 0 ≤ Sl.bytes (live.take k) ∧ Sl.bytes (live.take k) ≤ 120773 * (n : Int)) := fun k hk => by
    have h := Sl.bytes_ge (live.take k)
    rw [List.length_take] at h
    refine ⟨h.1, Int.le_trans h.2 (by omega)⟩
  have HN : Hid (∀ k, k < n → Sl.bytes (live.take (k + 1)) = Sl.bytes (live.take k) + Gm.cap (live.getD k Gm.R0).l) := fun k hk => Sl.bytes_next live k (by rw [hn.out]; exact hk)
  have HZ : Hid (Sl.bytes (live.take 0) = 0) := rfl
  rw [← HE.out]
  generalize hby : (fun k : Nat => Sl.bytes (live.take k)) = by_ at *
  have e : ∀ k, Sl.bytes (live.take k) = by_ k := fun k => by rw [← hby]
  simp only [e] at HE HG HN HZ ⊢
  clear hby e HE
  go_enter Try.func37, Try.ntmps37
  go_wp2_with fail
  go_loopw [3, 8] (fun sv iv wr => ∃ k : Nat, k ≤ n ∧ iv = .int .i64 (k : Int) ∧ sv = .int .i64 (by_ k) ∧ Hid (Below w.heap.size w wr)) (fun _ i _ => n - (intOf i).toNat)
  case atStart => exact ⟨0, Nat.zero_le _, rfl, by rw [HZ.out], Below.refl _ _⟩
  case round =>
    obtain ⟨k, hk, rfl, rfl, HB⟩ := hrel
    by_cases hlt : k < n
    · obtain ⟨r, hr⟩ : ∃ r, live.getD k Gm.R0 = r := ⟨_, rfl⟩
      obtain ⟨ad, rfl⟩ := hb.out.some (k := k) (by rw [hn.out]; exact hlt)
      obtain ⟨m0, m1, m2, m3, m4, m5, m6, m7, m8, m9⟩ := regs_at (hb.out.below HB.out hB) k (by rw [hn.out]; exact hlt) r hr
      have HNX := Lib.hid (HN.out k hlt)
      rw [hr] at HNX
      have hg := HG.out k (by omega)
      have hc := Sl.cap_ge r.l
      have CF := Lib.hid (fun W => refsbform_any r.l.id r.l.ver r.l.rs r.l.reg W)
      have HCAP : Hid (Gm.cap r.l = if Sb.form ⟨r.l.id, r.l.ver, r.l.rs, r.l.reg⟩ then (r.l.rs - 1) * 59 else 0) := rfl
      clear hr
      go_upto_region 5 with fail
      have HX := Lib.hid (sd_new wr #[.int .i64 r.ver, .int .i64 r.slot, .int .i64 r.lay, .int .i64 r.seq, .int .i64 r.tail, .int .i64 r.now, .int .i64 r.l.id, .int .i64 r.l.ver, .int .i64 r.l.rs, .int .i64 r.l.reg] 40)
      have HB2 : Hid (Below w.heap.size w (wr.alloc (.cells #[.int .i64 r.ver, .int .i64 r.slot, .int .i64 r.lay, .int .i64 r.seq, .int .i64 r.tail, .int .i64 r.now, .int .i64 r.l.id, .int .i64 r.l.ver, .int .i64 r.l.rs, .int .i64 r.l.reg] 40))) := HB.out.alloc HB.out.size _
      clear m0 m1 m2 m3 m4 m5 m6 m7 m8 m9 HB
      generalize wr.alloc (.cells #[.int .i64 r.ver, .int .i64 r.slot, .int .i64 r.lay, .int .i64 r.seq, .int .i64 r.tail, .int .i64 r.now, .int .i64 r.l.id, .int .i64 r.l.ver, .int .i64 r.l.rs, .int .i64 r.l.reg] 40) = w2 at *
      obtain ⟨m0, m1, m2, m3, m4, m5, m6, m7, m8, m9⟩ := ten_cells HX.out.1
      by_cases hf : Sb.form ⟨r.l.id, r.l.ver, r.l.rs, r.l.reg⟩
      · have hnum := Gm.form_nums hf
        simp only at hnum
        have CP := Lib.hid (fun W => refpkcap_any r.l.id r.l.ver r.l.rs r.l.reg (by omega) (by omega) W)
        have hcap := HCAP.out
        rw [if_pos hf] at hcap
        rw [decide_eq_true hf] at CF
        rw [← hcap] at CP
        have hw : wrap64 (by_ k + Gm.cap r.l) = by_ (k + 1) := by rw [HNX.out]; unfold wrap64; omega
        clear hcap hnum hf HCAP
        generalize Gm.cap r.l = cp at *
        go_wp2_with fail
        refine (CF.out _).mono ?_
        rintro e w3 ⟨rfl, hb3⟩
        have HX3 := Lib.hid (HX.out.next hb3 (by rfl) (by rfl) (by rfl) (by rfl))
        have HB3 : Hid (Below w.heap.size w w3) := HB2.out.trans (hb3.mono HB2.out.size)
        clear hb3 HX m0 m1 m2 m3 m4 m5 m6 m7 m8 m9 HB2
        obtain ⟨m0, m1, m2, m3, m4, m5, m6, m7, m8, m9⟩ := ten_cells HX3.out.1
        go_wp2_with fail
        refine (CP.out _).mono ?_
        rintro e w4 ⟨rfl, hb4⟩
        have HB4 : Hid (Below w.heap.size w w4) := HB3.out.trans (hb4.mono HB3.out.size)
        clear hb4 HX3 m0 m1 m2 m3 m4 m5 m6 m7 m8 m9 HB3
        go_wp2_with fail
        exact ⟨⟨k + 1, by omega, by go_num, by rw [HNX.out], HB4⟩, by simp [intOf]; omega⟩
      · have hcap := HCAP.out
        rw [if_neg hf] at hcap
        rw [decide_eq_false hf] at CF
        have hw : by_ (k + 1) = by_ k := by rw [HNX.out, hcap]; omega
        clear hcap hf HCAP hc
        go_wp2_with fail
        refine (CF.out _).mono ?_
        rintro e w3 ⟨rfl, hb3⟩
        have HB3 : Hid (Below w.heap.size w w3) := HB2.out.trans (hb3.mono HB2.out.size)
        clear hb3 HX m0 m1 m2 m3 m4 m5 m6 m7 m8 m9 HB2
        go_wp2_with fail
        exact ⟨⟨k + 1, by omega, by go_num, by rw [hw], HB3⟩, by simp [intOf]; omega⟩
    · obtain rfl : k = n := by omega
      go_wp2_with fail
      go_ret
      exact ⟨rfl, HB.out⟩
set_option maxHeartbeats 1000000 in
theorem refslchoose_any (a b c d : Int) (A : Option Addr) (lo B n cap : Nat) (live : List Gm.R) (w : World) (hB : B ≤ w.heap.size) (hn : Hid (live.length = n)) (hn2 : n ≤ 100000) (hb : Hid (Arr regS w lo B A live)) :
    Calls Try.prog 17 #[.agg #[.int .i64 a, .int .i64 b, .int .i64 c, .int .i64 d], .slice A n cap] w fun e w' => e = .returned (.tuple #[.int .i64 (Sl.choose ⟨a, b, c, d⟩ live), .bool (decide (Gm.free ⟨a, b, c, d⟩ live ≠ []))]) ∧ Below w.heap.size w w' := by
  have CF : Hid (∀ W, Below w.heap.size w W → Calls Try.prog 31 #[.agg #[.int .i64 a, .int .i64 b, .int .i64 c, .int .i64 d], .slice A n cap] W (FreeIs W (Gm.free ⟨a, b, c, d⟩ live))) := fun W hW => refgmfree_any a b c d A lo B n cap live W (Nat.le_trans hB hW.size) hn (by omega) (Lib.hid (hb.out.below hW hB))
  have HS0 := Lib.hid (sd_new w #[.int .i64 a, .int .i64 b, .int .i64 c, .int .i64 d] 23)
  unfold Sl.choose
  generalize Gm.free ⟨a, b, c, d⟩ live = L at *
  cases L with
  | nil =>
    go_enter Try.func17, Try.ntmps17
    go_upto_region 1 with fail
    generalize w.alloc (.cells #[.int .i64 a, .int .i64 b, .int .i64 c, .int .i64 d] 23) = w0 at *
    obtain ⟨z0, z1, z2, z3⟩ := four_cells HS0.out.1
    go_wp2_with fail
    refine (CF.out _ HS0.out.2).mono ?_
    rintro e w1 ⟨v, rfl, hr, hb1⟩
    obtain ⟨A1, c1, rfl, -, -⟩ := hr.open_
    have HB1 : Hid (Below w.heap.size w w1) := HS0.out.2.trans (hb1.mono HS0.out.2.size)
    rw [List.length_nil]
    go_wp2_with fail
    go_ret2
    exact ⟨rfl, HB1.out⟩
  | cons s t =>
    rw [show decide (s :: t ≠ []) = true by simp]
    go_enter Try.func17, Try.ntmps17
    go_upto_region 1 with fail
    generalize w.alloc (.cells #[.int .i64 a, .int .i64 b, .int .i64 c, .int .i64 d] 23) = w0 at *
    obtain ⟨z0, z1, z2, z3⟩ := four_cells HS0.out.1
    go_wp2_with fail
    refine (CF.out _ HS0.out.2).mono ?_
    rintro e w1 ⟨v, rfl, hr, hb1⟩
    obtain ⟨g1, c1, rfl, -, ha⟩ := hr.box (Nat.succ_pos _)
    have z := ints_at ha 0 (Nat.succ_pos _)
    have z1 : w1.cell? ⟨g1, 0, none⟩ = some (.int .i64 (s : Int)) := z
    have HB1 : Hid (Below w.heap.size w w1) := HS0.out.2.trans (hb1.mono HS0.out.2.size)
    obtain ⟨m, hm⟩ : ∃ m, (s :: t).length = m := ⟨_, rfl⟩
    have hm1 : 0 < m := by rw [← hm]; exact Nat.succ_pos _
    have hm0 : ((m : Int) == 0) = false := by rw [beq_eq_false_iff_ne]; omega
    clear hr ha z
    rw [hm]
    clear hm
    go_wp2_with fail
    go_ret2
    exact ⟨rfl, HB1.out⟩
set_option maxHeartbeats 1000000 in
theorem refsleq_same (A A' : Option Addr) (lo B lo' B' n c c' : Nat) (L : List Gm.R) (w : World) (hn : Hid (L.length = n)) (hn2 : n ≤ 100000) (h1 : Hid (Arr regS w lo B A L)) (h2 : Hid (Arr regS w lo' B' A' L)) :
    Calls Try.prog 9 #[.slice A n c, .slice A' n c'] w fun e w' => e = .returned (.bool true) ∧ Below w.heap.size w w' := by
  go_enter Try.func9, Try.ntmps9
  go_wp2_with fail
  go_loopw [13] (fun iv wr => ∃ k : Nat, k ≤ n ∧ iv = .int .i64 (k : Int) ∧ Hid (∃ m, wr = w.drewN m)) (fun i _ => n - (intOf i).toNat)
  case atStart => exact ⟨0, Nat.zero_le _, rfl, 0, rfl⟩
  case round =>
    obtain ⟨k, hk, rfl, HW⟩ := hrel
    generalize wr = wq at *
    obtain ⟨m, hw⟩ := HW.out
    have HWN : Hid (∀ q, ∃ m, wq.drewN q = w.drewN m) := fun q => ⟨m + q, by rw [hw, World.drewN_drewN]⟩
    have HBW : Hid (Below w.heap.size w wq) := by rw [hw]; exact below_drawn (Below.refl _ _) m
    have H1 : Hid (Arr regS wq lo B A L) := by rw [hw]; exact h1.out.heap rfl
    have H2 : Hid (Arr regS wq lo' B' A' L) := by rw [hw]; exact h2.out.heap rfl
    clear hw HW
    by_cases hlt : k < n
    · obtain ⟨r, hr⟩ : ∃ r, L.getD k Gm.R0 = r := ⟨_, rfl⟩
      obtain ⟨ad, rfl⟩ := H1.out.some (k := k) (by rw [hn.out]; exact hlt)
      obtain ⟨ad', rfl⟩ := H2.out.some (k := k) (by rw [hn.out]; exact hlt)
      obtain ⟨m0, m1, m2, m3, m4, m5, m6, m7, m8, m9⟩ := regs_at H1.out k (by rw [hn.out]; exact hlt) r hr
      obtain ⟨p0, p1, p2, p3, p4, p5, p6, p7, p8, p9⟩ := regs_at H2.out k (by rw [hn.out]; exact hlt) r hr
      have hq := fun W : World => reg_self W r
      clear hr
      go_wp2_with fail
      go_quiet (fail)
      go_wp2_with fail
      exact ⟨⟨k + 1, by omega, by go_num, HWN.out _⟩, by simp [intOf]; omega⟩
    · obtain rfl : k = n := by omega
      go_wp2_with fail
      go_ret
      exact ⟨rfl, HBW.out⟩
end Go.Proofs.Ytmkilbogdenljaa
