/-
  The walk of the law ReplayLater.
-/
import Derived.Test.YtcdomlgnfbdeoaaRpLawMap
set_option maxRecDepth 100000
namespace Go.Proofs.Ytcdomlgnfbdeoaa
open Go.RowKit
theorem prow_open {t : TypeId} {w : World} {base n : Nat} {v : Value} {L : List Tb.Pr} (h : ARow prS t w base v n L) : ∃ A c, v = .slice A n c ∧ SlIs A n c ∧ (A = none ∨ ∃ g, A = some ⟨g, 0, none⟩) ∧ Arr prS w base w.heap.size A L := by
  obtain ⟨A, c, rfl, hs, ha⟩ := h.open_
  refine ⟨A, c, rfl, hs, ?_, ha⟩
  rcases h.2 with ⟨e, -⟩ | ⟨g, cap, cur, e, -⟩
  · injection e with e; exact .inl e
  · injection e with e; exact .inr ⟨g, e⟩
theorem prs_six {w : World} {lo B : Nat} {ad : Addr} {L : List Tb.Pr} (h : Arr prS w lo B (some ad) L) (k : Nat) (hk : k < L.length) (p : Tb.Pr) (e : L.getD k Tb.Pr0 = p) :
    w.cell? (ad.add (k * 6)) = some (.string p.1) ∧ w.cell? ⟨(ad.add (k * 6)).block, (ad.add (k * 6)).off + 1, none⟩ = some (.int .i64 p.2.seq) ∧ w.cell? ⟨(ad.add (k * 6)).block, (ad.add (k * 6)).off + 2, none⟩ = some (.int .i64 p.2.off) ∧ w.cell? ⟨(ad.add (k * 6)).block, (ad.add (k * 6)).off + 3, none⟩ = some (.int .i64 p.2.len) ∧ w.cell? ⟨(ad.add (k * 6)).block, (ad.add (k * 6)).off + 4, none⟩ = some (.int .i64 p.2.exp) ∧ w.cell? ⟨(ad.add (k * 6)).block, (ad.add (k * 6)).off + 5, none⟩ = some (.bool p.2.hit) := by
  have h6 : ∀ j v, (prS.cs p)[j]? = some v → w.cell? (ad.add (k * 6 + j)) = some v := fun j v hv => h.cell k hk j v (by rw [show L.getD k prS.z = p from e]; exact hv)
  have g : ∀ i, 0 < i → ∀ v, (prS.cs p)[i]? = some v → w.cell? ⟨(ad.add (k * 6)).block, (ad.add (k * 6)).off + i, none⟩ = some v := fun i hi v hv => by
    have := h6 i v hv
    rwa [at_field _ _ _ hi] at this
  exact ⟨h6 0 _ rfl, g 1 (by decide) _ rfl, g 2 (by decide) _ rfl, g 3 (by decide) _ rfl, g 4 (by decide) _ rfl, g 5 (by decide) _ rfl⟩
theorem filt_next {L : List Tb.Pr} {k : Nat} (p : Tb.En → Bool) (hk : k < L.length) : (L.take (k + 1)).filter (fun q => p q.2) = (L.take k).filter (fun q => p q.2) ++ (if p (L.getD k Tb.Pr0).2 = true then [L.getD k Tb.Pr0] else []) := by
  rw [take_one Tb.Pr0 hk, List.filter_append, List.filter_cons, List.filter_nil]
set_option maxHeartbeats 4000000 in
theorem replaylater_any (now more : Int) (A : Option Addr) (n cap : Nat) (l : List Bt) (w : World) (hs : SlIs A n cap) (hn : Hid (l.length = n)) (hb : Hid (BtsAt w w.heap.size A l)) :
    Calls Try.prog 5 #[.slice A n cap, .int .i64 now, .int .i64 more] w fun e w' => e = .returned (.bool true) ∧ Below w.heap.size w w' := by
  have CS := Lib.hid (short22_any A n cap l w hs hn hb)
  have CA := Lib.hid (fun W => rpawake_any W)
  clear hn hb
  by_cases hr : 0 ≤ now ∧ now ≤ 549755813888 ∧ 0 ≤ more ∧ more ≤ 549755813888
  · obtain ⟨r1, r2, r3, r4⟩ := hr
    have d1 : decide (now < 0) = false := decide_eq_false (by omega)
    have d2 : decide (now > 549755813888) = false := decide_eq_false (by omega)
    have d3 : decide (more < 0) = false := decide_eq_false (by omega)
    have d4 : decide (more > 549755813888) = false := decide_eq_false (by omega)
    have q1 : wrap64 (now + more) = now + more := by unfold wrap64; omega
    go_enter Try.func5, Try.ntmps5
    go_wp2_with fail
    refine CS.out.mono ?_
    rintro e w1 ⟨av, bv, l', rfl, hst, hl5, hb1⟩
    have HB1 := Lib.hid hb1
    obtain ⟨hf8, hk10, ⟨A1, c1, rfl, hs1, ha1⟩, -⟩ := hst.both hb1.size
    have HF8 := Lib.hid hf8
    have HK10 := Lib.hid hk10
    have HA1 := Lib.hid ha1
    have HSL := Lib.hid hs1
    obtain ⟨m, hm⟩ : ∃ m, l'.length = m := ⟨_, rfl⟩
    rw [hm] at hl5 HSL ⊢
    have HM := Lib.hid hm
    clear hb1 hst hf8 hk10 hs1 ha1 hm CS
    go_wp2_with fail
    refine (rpmap_any A1 w1.heap.size m c1 l' now w1 HSL.out (Nat.le_refl _) HM (by omega) HF8 HK10 HA1).mono ?_
    rintro e w3 ⟨L, hI, hL, A3, c3, rfl, hs3, hn3, ha3, hb3⟩
    have HB3 := Lib.hid hb3
    have HI := Lib.hid hI
    have HA3 := Lib.hid ha3
    obtain ⟨N, hN⟩ : ∃ N, L.length = N := ⟨_, rfl⟩
    rw [hN] at hL ⊢
    have HN := Lib.hid hN
    have hc3 : N ≤ c3 := by rw [← hN]; exact hs3.2.1
    have HEND : Hid ((L.take N).filter (fun q => Rp.alive (now + more) q.2) = L.filter (fun q => Rp.alive (now + more) q.2)) := by
      show _ = _
      rw [List.take_of_length_le (by rw [HN.out]; exact Nat.le_refl _)]
    clear hI ha3 hn3 hs3 hb3 hN
    go_wp2_with fail
    go_loopw [9, 36] (fun v iv wr => ∃ i : Nat, i ≤ N ∧ iv = .int .i64 (i : Int) ∧ Hid (ARow prS 38 wr w3.heap.size v ((L.take i).filter (fun q => Rp.alive (now + more) q.2)).length ((L.take i).filter (fun q => Rp.alive (now + more) q.2))) ∧ Hid (Below w3.heap.size w3 wr)) (fun _ i _ => N - (intOf i).toNat)
    case atStart => exact ⟨0, Nat.zero_le _, rfl, ARow.nil _ _, Below.refl _ _⟩
    case round =>
      obtain ⟨i, hi, rfl, HR, HB⟩ := hrel
      generalize wr = wo at *
      by_cases hlt : i < N
      · obtain ⟨ad, rfl⟩ := HA3.out.some (k := i) (by rw [HN.out]; exact hlt)
        obtain ⟨⟨pk, e0, e1, e2, e3, e4⟩, hp⟩ : ∃ p, L.getD i Tb.Pr0 = p := ⟨_, rfl⟩
        obtain ⟨m0, m1, m2, m3, m4, m5⟩ := prs_six (HA3.out.below HB.out (Nat.le_refl _)) i (by rw [HN.out]; exact hlt) _ hp
        simp only at m0 m1 m2 m3 m4 m5
        have HNX := Lib.hid (filt_next (L := L) (k := i) (Rp.alive (now + more)) (by rw [HN.out]; exact hlt))
        rw [hp] at HNX
        have hfl : ((L.take i).filter (fun q => Rp.alive (now + more) q.2)).length ≤ 1000 := by
          have := List.length_filter_le (fun q : Tb.Pr => Rp.alive (now + more) q.2) (L.take i)
          rw [List.length_take] at this
          omega
        obtain ⟨A9, c9, rfl, -⟩ := HR.out.open_
        clear hp
        go_upto_region 8 with fail
        have HX := Lib.hid (heap_alloc_new wo (.cells #[.string pk, .int .i64 e0, .int .i64 e1, .int .i64 e2, .int .i64 e3, .bool e4] 38))
        have HRA := Lib.hid (HR.out.made (.cells #[.string pk, .int .i64 e0, .int .i64 e1, .int .i64 e2, .int .i64 e3, .bool e4] 38))
        have HBA : Hid (Below w3.heap.size w3 (wo.alloc (.cells #[.string pk, .int .i64 e0, .int .i64 e1, .int .i64 e2, .int .i64 e3, .bool e4] 38))) := HB.out.alloc HB.out.size _
        clear HR HB m0 m1 m2 m3 m4 m5
        generalize wo.alloc (.cells #[.string pk, .int .i64 e0, .int .i64 e1, .int .i64 e2, .int .i64 e3, .bool e4] 38) = wa at *
        obtain ⟨y0, y1, y2, y3, y4, y5⟩ := six_cells HX.out
        have hal : Rp.alive (now + more) ⟨e0, e1, e2, e3, e4⟩ = (decide (e3 = 0) || decide (now + more < e3)) := rfl
        by_cases hz : e3 = 0
        · have c0 : (e3 == 0) = true := beq_iff_eq.2 hz
          rw [decide_eq_true hz, Bool.true_or] at hal
          clear hz
          rw [hal, if_pos rfl] at HNX
          have HRB := Lib.hid (HRA.out.made (.cells #[.string pk, .int .i64 e0, .int .i64 e1, .int .i64 e2, .int .i64 e3, .bool e4] 38))
          have HGB : Hid ((wa.alloc (.cells #[.string pk, .int .i64 e0, .int .i64 e1, .int .i64 e2, .int .i64 e3, .bool e4] 38)).heap[wa.heap.size]? = some (.cells (prS.cs (pk, ⟨e0, e1, e2, e3, e4⟩)).toArray 38 (0, 0))) := heap_alloc_new _ _
          have HBB : Hid (Below w3.heap.size w3 (wa.alloc (.cells #[.string pk, .int .i64 e0, .int .i64 e1, .int .i64 e2, .int .i64 e3, .bool e4] 38))) := HBA.out.alloc HBA.out.size _
          clear HRA HBA HX hal
          go_wp2_with (at_builtin; refine wpList_append_arr (S := prS) 28 Try.underlying28 info_pair rfl rfl (.tmp 53) (.tmp 55) rfl wa.heap.size 1 (pk, ⟨e0, e1, e2, e3, e4⟩) rfl HRB.out rfl HGB.out (by unfold maxLen; omega) (by omega) HBB.out.size ?_; intro v4 w4 hr4 hb4 hx4)
          have HR4 : Hid (ARow prS 38 w4 w3.heap.size v4 ((L.take (i + 1)).filter (fun q => Rp.alive (now + more) q.2)).length ((L.take (i + 1)).filter (fun q => Rp.alive (now + more) q.2))) := by
            rw [HNX.out, List.length_append]
            exact hr4
          have HB4 : Hid (Below w3.heap.size w3 w4) := HBB.out.trans hb4
          clear hr4 hb4 hx4 HRB HGB HBB y0 y1 y2 y3 y4 y5
          go_wp2_with fail
          exact ⟨⟨i + 1, by omega, by go_num, HR4.out, HB4.out⟩, by simp [intOf] <;> omega⟩
        · have c0 : (e3 == 0) = false := beq_eq_false_iff_ne.2 hz
          by_cases hx : now + more < e3
          · have c1 : decide (e3 > now + more) = true := decide_eq_true hx
            have c1' : decide (now + more < e3) = true := decide_eq_true hx
            rw [c1', Bool.or_true] at hal
            rw [hal, if_pos rfl] at HNX
            have HRB := Lib.hid (HRA.out.made (.cells #[.string pk, .int .i64 e0, .int .i64 e1, .int .i64 e2, .int .i64 e3, .bool e4] 38))
            have HGB : Hid ((wa.alloc (.cells #[.string pk, .int .i64 e0, .int .i64 e1, .int .i64 e2, .int .i64 e3, .bool e4] 38)).heap[wa.heap.size]? = some (.cells (prS.cs (pk, ⟨e0, e1, e2, e3, e4⟩)).toArray 38 (0, 0))) := heap_alloc_new _ _
            have HBB : Hid (Below w3.heap.size w3 (wa.alloc (.cells #[.string pk, .int .i64 e0, .int .i64 e1, .int .i64 e2, .int .i64 e3, .bool e4] 38))) := HBA.out.alloc HBA.out.size _
            clear HRA HBA HX hal
            go_wp2_with (at_builtin; refine wpList_append_arr (S := prS) 28 Try.underlying28 info_pair rfl rfl (.tmp 53) (.tmp 55) rfl wa.heap.size 1 (pk, ⟨e0, e1, e2, e3, e4⟩) rfl HRB.out rfl HGB.out (by unfold maxLen; omega) (by omega) HBB.out.size ?_; intro v4 w4 hr4 hb4 hx4)
            have HR4 : Hid (ARow prS 38 w4 w3.heap.size v4 ((L.take (i + 1)).filter (fun q => Rp.alive (now + more) q.2)).length ((L.take (i + 1)).filter (fun q => Rp.alive (now + more) q.2))) := by
              rw [HNX.out, List.length_append]
              exact hr4
            have HB4 : Hid (Below w3.heap.size w3 w4) := HBB.out.trans hb4
            clear hr4 hb4 hx4 HRB HGB HBB y0 y1 y2 y3 y4 y5
            go_wp2_with fail
            exact ⟨⟨i + 1, by omega, by go_num, HR4.out, HB4.out⟩, by simp [intOf] <;> omega⟩
          · have c1 : decide (e3 > now + more) = false := decide_eq_false hx
            have c1' : decide (now + more < e3) = false := decide_eq_false hx
            rw [c1', decide_eq_false hz, Bool.or_false] at hal
            rw [hal, if_neg (by decide), List.append_nil] at HNX
            have HR4 : Hid (ARow prS 38 wa w3.heap.size (.slice A9 ((L.take i).filter (fun q => Rp.alive (now + more) q.2)).length c9) ((L.take (i + 1)).filter (fun q => Rp.alive (now + more) q.2)).length ((L.take (i + 1)).filter (fun q => Rp.alive (now + more) q.2))) := by
              rw [HNX.out]
              exact HRA.out
            clear HX hal
            go_wp2_with fail
            exact ⟨⟨i + 1, by omega, by go_num, HR4.out, HBA.out⟩, by simp [intOf] <;> omega⟩
      · obtain rfl : i = N := by omega
        have HRL : Hid (ARow prS 38 wo w3.heap.size u9 (L.filter (fun q => Rp.alive (now + more) q.2)).length (L.filter (fun q => Rp.alive (now + more) q.2))) := by
          rw [← HEND.out]
          exact HR.out
        have hle : (L.filter (fun q => Rp.alive (now + more) q.2)).length ≤ 1000 := Nat.le_trans (List.length_filter_le _ _) (by rw [HN.out]; exact hL)
        have HI2 : Hid (Rp.Is (L.filter (fun q => Rp.alive (now + more) q.2)) (Rp.out (now + more) (Rp.fin (fsOf l')))) := (HI.out.filter (Rp.alive (now + more))).congr fun k => Rp.out_later (by omega) _ k
        have HBO : Hid (Below w1.heap.size w1 wo) := HB3.out.trans (HB.out.mono HB3.out.size)
        clear HR HB HEND
        go_wp2_with fail
        refine (CA.out _).mono ?_
        rintro e w5 ⟨rfl, hb5⟩
        have HB5 : Hid (Below w1.heap.size w1 w5) := HBO.out.trans (hb5.mono HBO.out.size)
        have HR5 := Lib.hid (HRL.out.stays hb5)
        clear hb5 HRL
        go_wp2_with fail
        refine (rpmap_any A1 w1.heap.size m c1 l' (now + more) w5 HSL.out HB5.out.size HM (by omega) HF8 HK10 (Lib.hid (HA1.out.below HB5.out (Nat.le_refl _)))).mono ?_
        rintro e w6 ⟨L2, hI2, -, A6, c6, rfl, hs6, hn6, ha6, hb6⟩
        obtain rfl := hI2.one HI2.out
        have HB6 : Hid (Below w1.heap.size w1 w6) := HB5.out.trans (hb6.mono HB5.out.size)
        obtain ⟨A7, c7, rfl, hs7, hn7, ha7⟩ := prow_open HR5.out
        have HE := Lib.hid (prs_eq hle hs6 hs7 hn6 hn7 ha6 (ha7.below hb6 (Nat.le_refl _)))
        clear hI2 hs6 hn6 ha6 hb6 hs7 hn7 ha7 HR5
        go_wp2_with fail
        refine HE.out.mono ?_
        rintro e w7 ⟨rfl, hb7⟩
        have HB7 : Hid (Below w1.heap.size w1 w7) := HB6.out.trans (hb7.mono HB6.out.size)
        go_wp2_with fail
        go_ret
        exact ⟨rfl, HB1.out.trans (HB7.out.mono HB1.out.size)⟩
  · by_cases h1 : now < 0
    · have d1 : decide (now < 0) = true := decide_eq_true h1
      go_enter Try.func5, Try.ntmps5
      go_wp2_with fail
      refine CS.out.mono ?_
      rintro e w1 ⟨av, bv, l', rfl, hst, hl5, hb1⟩
      have HB1 := Lib.hid hb1
      clear hst hl5 hb1 CS
      go_wp2_with fail
      refine (CA.out _).mono ?_
      rintro e w2 ⟨rfl, hb2⟩
      have HB2 : Hid (Below w.heap.size w w2) := HB1.out.trans (hb2.mono HB1.out.size)
      go_wp2_with fail
      go_ret
      exact ⟨rfl, HB2.out⟩
    · have d1 : decide (now < 0) = false := decide_eq_false h1
      by_cases h2 : now > 549755813888
      · have d2 : decide (now > 549755813888) = true := decide_eq_true h2
        go_enter Try.func5, Try.ntmps5
        go_wp2_with fail
        refine CS.out.mono ?_
        rintro e w1 ⟨av, bv, l', rfl, hst, hl5, hb1⟩
        have HB1 := Lib.hid hb1
        clear hst hl5 hb1 CS
        go_wp2_with fail
        refine (CA.out _).mono ?_
        rintro e w2 ⟨rfl, hb2⟩
        have HB2 : Hid (Below w.heap.size w w2) := HB1.out.trans (hb2.mono HB1.out.size)
        go_wp2_with fail
        go_ret
        exact ⟨rfl, HB2.out⟩
      · have d2 : decide (now > 549755813888) = false := decide_eq_false h2
        by_cases h3 : more < 0
        · have d3 : decide (more < 0) = true := decide_eq_true h3
          go_enter Try.func5, Try.ntmps5
          go_wp2_with fail
          refine CS.out.mono ?_
          rintro e w1 ⟨av, bv, l', rfl, hst, hl5, hb1⟩
          have HB1 := Lib.hid hb1
          clear hst hl5 hb1 CS
          go_wp2_with fail
          refine (CA.out _).mono ?_
          rintro e w2 ⟨rfl, hb2⟩
          have HB2 : Hid (Below w.heap.size w w2) := HB1.out.trans (hb2.mono HB1.out.size)
          go_wp2_with fail
          go_ret
          exact ⟨rfl, HB2.out⟩
        · have d3 : decide (more < 0) = false := decide_eq_false h3
          have d4 : decide (more > 549755813888) = true := decide_eq_true (by omega)
          go_enter Try.func5, Try.ntmps5
          go_wp2_with fail
          refine CS.out.mono ?_
          rintro e w1 ⟨av, bv, l', rfl, hst, hl5, hb1⟩
          have HB1 := Lib.hid hb1
          clear hst hl5 hb1 CS
          go_wp2_with fail
          refine (CA.out _).mono ?_
          rintro e w2 ⟨rfl, hb2⟩
          have HB2 : Hid (Below w.heap.size w w2) := HB1.out.trans (hb2.mono HB1.out.size)
          go_wp2_with fail
          go_ret
          exact ⟨rfl, HB2.out⟩
end Go.Proofs.Ytcdomlgnfbdeoaa
