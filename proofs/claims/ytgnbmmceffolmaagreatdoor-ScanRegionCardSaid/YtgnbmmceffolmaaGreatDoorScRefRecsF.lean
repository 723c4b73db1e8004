/-
  The walks of the reference of layer 15: Records, Region.
-/
import Derived.Test.YtgnbmmceffolmaaGreatDoorScRefRegionF
set_option maxRecDepth 100000
namespace Go.Proofs.YtgnbmmceffolmaaGreatDoor
open Go.RowKit
theorem refdecode_next (v seq : Int) (D : List Nat) (off : Nat) (hseq : seq ≤ 9223372036854775807) (hD : D.length ≤ 1000000) (ho : off < D.length) (h0 : D.getD off 0 ≠ 0) :
    ∃ t rc n, Sc.Next v seq D off t rc n ∧ ∀ (W : World) (A : Option Addr) (B c : Nat), B ≤ W.heap.size → SlIs A (D.length - off) c → Bs W B A (D.drop off) →
      Calls Tryz.prog 70 #[.int .i64 v, .int .i64 seq, .int .i64 (off : Int), .slice A (D.length - off) c] W (RecIs W t rc (n : Int)) := by
  have H := fun (W : World) (A : Option Addr) (B c : Nat) (hB : B ≤ W.heap.size) (hs : SlIs A (D.length - off) c) (hb : Bs W B A (D.drop off)) => refdecode_any v seq (off : Int) A B (D.length - off) c (D.drop off) W hB hseq hs (List.length_drop) hb (by omega)
  by_cases hg : Rc.good v seq (off : Int) (D.drop off)
  · refine ⟨true, _, _, next_good ho h0 hg, fun W A B c hB hs hb => (H W A B c hB hs hb).mono fun e w' h => ?_⟩
    rcases h with ⟨-, h⟩ | ⟨h, -⟩
    · exact recis_got hg h
    · exact absurd hg h
  · refine ⟨false, _, _, next_bad ho h0 hg, fun W A B c hB hs hb => (H W A B c hB hs hb).mono fun e w' h => ?_⟩
    rcases h with ⟨h, -⟩ | ⟨-, h⟩
    · exact absurd h hg
    · exact recis_no h
set_option maxHeartbeats 2000000 in
theorem refrecords_any (v seq : Int) (D : List Nat) (A : Option Addr) (cA : Nat) (w : World) (hseq : Hid (seq ≤ 9223372036854775807)) (hD : D.length ≤ 130000) (hs : SlIs A D.length cA) (hA : Hid (A = none ∨ ∃ ga, A = some ⟨ga, 0, none⟩)) (hb : Hid (Bs w w.heap.size A D)) :
    Calls Tryz.prog 37 #[.slice A D.length cA, .int .i64 v, .int .i64 seq] w (FoundIs w (Sc.recs v seq D 0)) := by
  have HAB : Hid (∀ (W : World) (k : Nat), Below w.heap.size w W → k < D.length → ∃ ad, A = some ad ∧ W.cell? (ad.add k) = some (.int .u8 ((D.getD k 0 : Nat) : Int))) := fun W k hW hk => by
    obtain ⟨-, ad, e1, e2, e3⟩ := hb.out k hk
    exact ⟨ad, e1, (World.cell?_of_block (hW.block _ (by rw [add_block]; exact e2))).trans e3⟩
  have hnc : D.length ≤ cA := hs.2.1
  have hcm : cA ≤ 9223372036854775807 := hs.2.2
  have HDD : Hid (D.length ≤ 1000000) := by show _ ≤ _; omega
  unfold FoundIs
  clear hs
  generalize hN : D.length = N at *
  have HN := Lib.hid hN
  clear hN
  go_enter Tryz.func37, Tryz.ntmps37
  go_wp2_with fail
  go_loopw [7, 8] (fun fv iv wr => ∃ (off : Nat) (l : List Fd), iv = .int .i64 (off : Int) ∧ off ≤ N + 59 ∧ 16 * l.length ≤ off ∧ Hid (Sc.Walked v seq D off l) ∧ Hid (FRow wr w.heap.size fv l) ∧ Hid (Below w.heap.size w wr)) (fun _ iv _ => N + 59 - (Go.RowKit.intOf iv).toNat)
  case atStart => exact ⟨0, [], rfl, by omega, Nat.le_refl _, rfl, FRow.nil, Below.refl _ _⟩
  case round =>
    obtain ⟨off, l, rfl, hle, h16, hwk, hrow, hbel⟩ := hrel
    by_cases hlt : off < N
    · have hd1 : decide ((off : Int) < (N : Int)) = true := by simp only [decide_eq_true_eq]; omega
      obtain ⟨ad, e, hcell⟩ := HAB.out wr off hbel.out hlt
      rcases hA.out with rfl | ⟨ga, rfl⟩
      · cases e
      injection e with e
      subst e
      rw [arr_flat, Nat.zero_add] at hcell
      have hoff : (off : Int) ≤ (N : Int) := by omega
      by_cases h0 : D.getD off 0 = 0
      · have HNX : Hid (Sc.Walked v seq D ((off / 59 + 1) * 59) l) := walked_skip hwk.out (by rw [HN.out]; exact hlt) h0
        have hle2 : (off / 59 + 1) * 59 ≤ N + 59 := by omega
        have h162 : 16 * l.length ≤ (off / 59 + 1) * 59 := by omega
        rw [h0] at hcell
        clear h0
        have hmea : N + 59 - (off / 59 + 1) * 59 < N + 59 - off := by omega
        have hnx : Hid (((off : Int) / 59 + 1) * 59 = (((off / 59 + 1) * 59 : Nat) : Int)) := by show _ = _; omega
        go_wp2_with fail
        rw [hnx.out]
        generalize (off / 59 + 1) * 59 = off2 at *
        go_roundw
        case rel => exact ⟨off2, l, rfl, hle2, h162, HNX, hrow, hbel⟩
        case measure => simp [Go.RowKit.intOf]; omega
      · obtain ⟨t, rc, n, hnx, hdec⟩ := refdecode_next v seq D off hseq.out (by rw [HN.out]; exact HDD.out) (by rw [HN.out]; exact hlt) h0
        have HNX := Lib.hid hnx
        have HDE : Hid (∀ W, Below wr.heap.size wr W → Calls Tryz.prog 70 #[.int .i64 v, .int .i64 seq, .int .i64 (off : Int), .slice (some ⟨ga, off, none⟩) (N - off) (cA - off)] W (RecIs W t rc (n : Int))) := fun W hW => by
          have hB4 : Below w.heap.size w W := hbel.out.trans (hW.mono hbel.out.size)
          have := hdec W (some ⟨ga, off, none⟩) w.heap.size (cA - off) hB4.size ⟨(fun e => by cases e), by rw [HN.out]; omega, by omega⟩ (by
            have h2 := bs_drop (hb.out.below hB4 (Nat.le_refl _)) off
            rw [Option.map_some, arr_flat, Nat.zero_add] at h2
            exact h2)
          rwa [HN.out] at this
        unfold RecIs at HDE
        have hne : ¬ (cA = off) := by omega
        obtain ⟨x, hx⟩ : ∃ x, D.getD off 0 = x := ⟨_, rfl⟩
        rw [hx] at hcell h0
        have f1 : ((x : Int) == 0) = false := by rw [beq_eq_false_iff_ne]; omega
        clear hx h0 hnx hdec
        have HC := Lib.hid (HDE.out wr (Below.refl _ _))
        clear HDE
        go_wp2_with fail
        refine HC.out.mono ?_
        rintro e w2 ⟨B1, d1, B2, d2, rfl, hs1, hs2, hk1, hk2, hb2⟩
        have HRBX := Lib.hid (heap_alloc_new w2 (.cells #[.int .i64 rc.kind, .slice B1 rc.key.length d1, .slice B2 rc.val.length d2, .int .i64 rc.exp] 55))
        have HRB : Hid (Below w2.heap.size w2 (w2.alloc (.cells #[.int .i64 rc.kind, .slice B1 rc.key.length d1, .slice B2 rc.val.length d2, .int .i64 rc.exp] 55))) := (Below.refl _ _).alloc (Nat.le_refl _) _
        have HB := Lib.hid (hb2.trans (HRB.out.mono hb2.size))
        have HSL := Lib.hid (And.intro hs1 hs2)
        have HAP : Hid (Ap (w2.alloc (.cells #[.int .i64 rc.kind, .slice B1 rc.key.length d1, .slice B2 rc.val.length d2, .int .i64 rc.exp] 55)) wr.heap.size w2.heap.size B1 rc.key ∧ Ap (w2.alloc (.cells #[.int .i64 rc.kind, .slice B1 rc.key.length d1, .slice B2 rc.val.length d2, .int .i64 rc.exp] 55)) wr.heap.size w2.heap.size B2 rc.val) := ⟨⟨_, _, hk1.keep fun y _ hy => HRB.out.block y hy, HRB.out.size, Nat.le_refl _, .inr (Nat.le_refl _)⟩, ⟨_, _, hk2.keep fun y _ hy => HRB.out.block y hy, HRB.out.size, Nat.le_refl _, .inr (Nat.le_refl _)⟩⟩
        have HVB : Hid (∀ g, u7.ownBlock = some g → g < wr.heap.size) := fun g e => hrow.out.row.lt e
        have HBW : Hid (Below w.heap.size w (w2.alloc (.cells #[.int .i64 rc.kind, .slice B1 rc.key.length d1, .slice B2 rc.val.length d2, .int .i64 rc.exp] 55))) := hbel.out.trans (HB.out.mono hbel.out.size)
        have HR2 := Lib.hid (hrow.out.new HB.out)
        have hl0 : l.length ≤ 1000000 := by omega
        clear hs1 hs2 hk1 hk2 hb2 HC hcell HRB
        go_upto_region 7 with fail
        generalize w2.alloc (.cells #[.int .i64 rc.kind, .slice B1 rc.key.length d1, .slice B2 rc.val.length d2, .int .i64 rc.exp] 55) = w3 at *
        generalize w2.heap.size = q2 at *
        cases t with
        | false =>
          go_wp2_with fail
          go_ret
          exact ⟨_, l, rfl, HR2.out, walked_end hwk.out HNX.out.none, HBW.out⟩
        | true =>
          obtain ⟨hn1, hn2, hn3⟩ := HNX.out.bounds
          have HWK := Lib.hid (walked_one (f := ⟨(off : Int), (n : Int), ⟨rc.kind, rc.exp, B1, B2, rc.key.length, d1, rc.val.length, d2, rc.key, rc.val⟩⟩) hwk.out HNX.out rfl)
          rw [HN.out] at hn2
          have HFB : Hid (Below w3.heap.size w3 (w3.alloc (.cells #[.int .i64 (off : Int), .int .i64 (n : Int), .int .i64 rc.kind, .slice B1 rc.key.length d1, .slice B2 rc.val.length d2, .int .i64 rc.exp] 76))) := (Below.refl _ _).alloc (Nat.le_refl _) _
          have HB3 := Lib.hid (HBW.out.trans (HFB.out.mono HBW.out.size))
          have HR3 := Lib.hid (HR2.out.new HFB.out)
          have HX3 := Lib.hid (heap_alloc_new w3 (.cells #[.int .i64 (off : Int), .int .i64 (n : Int), .int .i64 rc.kind, .slice B1 rc.key.length d1, .slice B2 rc.val.length d2, .int .i64 rc.exp] 76))
          have HPP : Hid (((⟨(off : Int), (n : Int), ⟨rc.kind, rc.exp, B1, B2, rc.key.length, d1, rc.val.length, d2, rc.key, rc.val⟩⟩ : Fd).ok) ∧ OffV (w3.alloc (.cells #[.int .i64 (off : Int), .int .i64 (n : Int), .int .i64 rc.kind, .slice B1 rc.key.length d1, .slice B2 rc.val.length d2, .int .i64 rc.exp] 76)) u7 B1 rc.key ∧ OffV (w3.alloc (.cells #[.int .i64 (off : Int), .int .i64 (n : Int), .int .i64 rc.kind, .slice B1 rc.key.length d1, .slice B2 rc.val.length d2, .int .i64 rc.exp] 76)) u7 B2 rc.val) :=
            ⟨⟨⟨HSL.out.1, rfl⟩, ⟨HSL.out.2, rfl⟩, by have := hn3.1; show _ ≤ _; simp only; omega, by have := hn3.2; show _ ≤ _; simp only; omega⟩, (HAP.out.1.new HFB.out).offv HVB.out, (HAP.out.2.new HFB.out).offv HVB.out⟩
          have hln : 16 * (l ++ [(⟨(off : Int), (n : Int), ⟨rc.kind, rc.exp, B1, B2, rc.key.length, d1, rc.val.length, d2, rc.key, rc.val⟩⟩ : Fd)]).length ≤ off + n := by rw [List.length_append, List.length_singleton]; omega
          have hoff2 : off + n ≤ N + 59 := by omega
          have hw1 : IntKind.i64.wrap ((off : Int) + (n : Int)) = (off : Int) + (n : Int) := by rw [IntKind.wrap_i64]; omega
          obtain ⟨y0, y1, y2, y3⟩ := four_cells HRBX.out
          clear hrow hwk HAP HSL HB hn3 HVB
          go_wp2_with (at_builtin; refine append_found rfl (.tmp 39) (.tmp 44) rfl u7 l rfl HR3.out w3.heap.size 1 ⟨(off : Int), (n : Int), ⟨rc.kind, rc.exp, B1, B2, rc.key.length, d1, rc.val.length, d2, rc.key, rc.val⟩⟩ rfl HX3.out hl0 HPP.out HB3.out.size ?_; intro v5 w5 hr5 hb5; have HR5 := Lib.hid hr5; have HB5 := Lib.hid (HB3.out.trans (hb5.mono (Nat.le_refl _))); clear hr5 hb5)
          go_roundw
          case rel => exact ⟨off + n, _, by go_num, hoff2, hln, HWK, HR5, HB5⟩
          case measure => simp [Go.RowKit.intOf]; omega
    · have hd1 : decide ((off : Int) < (N : Int)) = false := by simp only [decide_eq_false_iff_not]; omega
      have HE := Lib.hid (walked_end hwk.out (Sc.recs_end (by rw [HN.out]; omega)))
      clear hwk
      go_wp2_with fail
      go_ret
      exact ⟨_, l, rfl, hrow.out, HE.out, hbel.out⟩
theorem own_way {A : Option Addr} {n c g0 s : Nat} (h : (A = none ∧ n = 0 ∧ c = 0) ∨ ∃ g, A = some ⟨g, 0, none⟩ ∧ g0 ≤ g ∧ g < s) : A = none ∨ ∃ ga, A = some ⟨ga, 0, none⟩ := by
  rcases h with ⟨h, -⟩ | ⟨g, h, -⟩
  · exact .inl h
  · exact .inr ⟨g, h⟩
set_option maxHeartbeats 2000000 in
theorem refscregion_any (a b c d slot seq : Int) (ga n cp B : Nat) (img : List Nat) (w : World) (hB : B ≤ w.heap.size) (hl : img.length = n) (hn : n ≤ 67108864) (hc : n ≤ cp ∧ cp ≤ 9223372036854775807) (hb : Hid (Bs w B (some ⟨ga, 0, none⟩) img)) :
    Calls Tryz.prog 11 #[.slice (some ⟨ga, 0, none⟩) n cp, .agg #[.int .i64 a, .int .i64 b, .int .i64 c, .int .i64 d], .int .i64 slot, .int .i64 seq] w (FoundIs w (Sc.region img ⟨a, b, c, d⟩ slot seq)) := by
  have HS0 := Lib.hid (sd_new w #[.int .i64 a, .int .i64 b, .int .i64 c, .int .i64 d] 29)
  unfold FoundIs
  by_cases hsq : 1 ≤ seq ∧ seq ≤ 281474976710655
  · have f0 : decide (seq < 1) = false := by simp only [decide_eq_false_iff_not]; omega
    have f1 : decide (281474976710655 < seq) = false := by simp only [decide_eq_false_iff_not]; omega
    have CS : Hid (∀ W, Below w.heap.size w W → Calls Tryz.prog 38 #[.slice (some ⟨ga, 0, none⟩) n cp, .agg #[.int .i64 a, .int .i64 b, .int .i64 c, .int .i64 d], .int .i64 slot, .int .i64 seq] W (BytesIs W (if Gm.has ⟨a, b, c, d⟩ slot then Sc.stream img ⟨a, b, c, d⟩ slot seq 0 (c - 1).toNat else []))) := fun W hW =>
      refscstream_any a b c d slot seq ga n cp B img W (by omega) (Nat.le_trans hB hW.size) hl hn hc (hb.out.below hW hB)
    have HREG : Hid (Sc.region img ⟨a, b, c, d⟩ slot seq = Sc.recs b seq (if Gm.has ⟨a, b, c, d⟩ slot then Sc.stream img ⟨a, b, c, d⟩ slot seq 0 (c - 1).toNat else []) 0) := by
      show _ = _
      unfold Sc.region
      by_cases hh : Gm.has ⟨a, b, c, d⟩ slot
      · rw [if_pos (show Pk.ok ⟨a, b, c, d⟩ slot seq from ⟨hh, hsq⟩), if_pos hh]
      · rw [if_neg (show ¬ Pk.ok ⟨a, b, c, d⟩ slot seq from fun h => hh h.1), if_neg hh, Sc.recs_end (Nat.zero_le _)]
    have HDL : (if Gm.has ⟨a, b, c, d⟩ slot then Sc.stream img ⟨a, b, c, d⟩ slot seq 0 (c - 1).toNat else []).length ≤ 130000 := by
      split
      · next hh =>
        have hf := Gm.form_nums hh.1
        simp only at hf
        have := Sc.stream_len (img := img) (l := ⟨a, b, c, d⟩) (slot := slot) (seq := seq) (c - 1).toNat 0
        omega
      · exact Nat.zero_le _
    have HDB : Hid (∀ x ∈ (if Gm.has ⟨a, b, c, d⟩ slot then Sc.stream img ⟨a, b, c, d⟩ slot seq 0 (c - 1).toNat else []), x < 256) := by
      show ∀ x ∈ _, _
      split
      · exact Sc.stream_lt hb.out.lt _ _
      · exact fun x h => by cases h
    rw [HREG.out]
    unfold BytesIs at CS
    clear HREG hb
    generalize (if Gm.has ⟨a, b, c, d⟩ slot then Sc.stream img ⟨a, b, c, d⟩ slot seq 0 (c - 1).toNat else []) = D at *
    have CR : Hid (∀ (W : World) (A : Option Addr) (cA : Nat), SlIs A D.length cA → (A = none ∨ ∃ ga, A = some ⟨ga, 0, none⟩) → Bs W W.heap.size A D → Calls Tryz.prog 37 #[.slice A D.length cA, .int .i64 b, .int .i64 seq] W (FoundIs W (Sc.recs b seq D 0))) := fun W A cA h1 h2 h3 =>
      refrecords_any b seq D A cA W (by show seq ≤ _; omega) HDL h1 h2 h3
    unfold FoundIs at CR
    go_enter Tryz.func11, Tryz.ntmps11
    go_upto_region 1 with fail
    generalize w.alloc (.cells #[.int .i64 a, .int .i64 b, .int .i64 c, .int .i64 d] 29) = w0 at *
    obtain ⟨z0, z1, z2, z3⟩ := four_cells HS0.out.1
    go_wp2_with fail
    have HBa : Hid (Sd w w.heap.size _ w0.drew) := ⟨HS0.out.1, HS0.out.2.drew⟩
    refine wp_region_held_drew (S := fun W => W.cell? ⟨w.heap.size, 0, none⟩ = some (.int .i64 a) ∧ W.cell? ⟨w.heap.size, 1, none⟩ = some (.int .i64 b) ∧ W.cell? ⟨w.heap.size, 2, none⟩ = some (.int .i64 c) ∧ W.cell? ⟨w.heap.size, 3, none⟩ = some (.int .i64 d)) (by kernel_rfl) (four_cells HBa.out.1) (fun hH => ?_)
    change wpAnyH _ _ _ _ _ 10 #[false, false, false, false, false, false, false, false, false, false] _ _
    refine held_take (i := 0) (v := ?_) (d := some 15) rfl rfl (by kernel_rfl) (by kernel_rfl) (by kernel_rfl) (fun _ _ _ h => h) hH ⟨?_, fun w hSw => ?_⟩ ?_
    rotate_left 1
    · rfl
    · (go_simp; all_goals with_reducible rfl)
    simp only [Act.put, List.setIfInBounds_toArray, List.set_cons_zero, List.set_cons_succ]
    refine held_take (i := 1) (v := ?_) (d := some 16) rfl rfl (by kernel_rfl) (by kernel_rfl) (by kernel_rfl) (fun _ _ _ h => h) hH ⟨?_, fun w hSw => ?_⟩ ?_
    rotate_left 1
    · rfl
    · obtain ⟨x0, x1, x2, x3⟩ := hSw
      (go_simp; all_goals with_reducible rfl)
    simp only [Act.put, List.setIfInBounds_toArray, List.set_cons_zero, List.set_cons_succ]
    refine held_take (i := 2) (v := ?_) (d := some 17) rfl rfl (by kernel_rfl) (by kernel_rfl) (by kernel_rfl) (fun _ _ _ h => h) hH ⟨?_, fun w hSw => ?_⟩ ?_
    rotate_left 1
    · rfl
    · (go_simp; all_goals with_reducible rfl)
    simp only [Act.put, List.setIfInBounds_toArray, List.set_cons_zero, List.set_cons_succ]
    refine held_take (i := 3) (v := ?_) (d := some 18) rfl rfl (by kernel_rfl) (by kernel_rfl) (by kernel_rfl) (fun _ _ _ h => h) hH ⟨?_, fun w hSw => ?_⟩ ?_
    rotate_left 1
    · rfl
    · (go_simp; all_goals with_reducible rfl)
    simp only [Act.put, List.setIfInBounds_toArray, List.set_cons_zero, List.set_cons_succ]
    refine held_take (i := 5) (v := ?_) (d := some 20) rfl rfl (by kernel_rfl) (by kernel_rfl) (by kernel_rfl) (fun _ _ _ h => h) hH ⟨?_, fun w hSw => ?_⟩ ?_
    rotate_left 1
    · rfl
    · (go_simp; all_goals with_reducible rfl)
    simp only [Act.put, List.setIfInBounds_toArray, List.set_cons_zero, List.set_cons_succ]
    refine held_take (i := 6) (v := ?_) (d := some 21) rfl rfl (by kernel_rfl) (by kernel_rfl) (by kernel_rfl) (fun _ _ _ h => h) hH ⟨?_, fun w hSw => ?_⟩ ?_
    rotate_left 1
    · rfl
    · obtain ⟨x0, x1, x2, x3⟩ := hSw
      (go_simp; all_goals with_reducible rfl)
    simp only [Act.put, List.setIfInBounds_toArray, List.set_cons_zero, List.set_cons_succ]
    refine held_take (i := 7) (v := ?_) (d := some 22) rfl rfl (by kernel_rfl) (by kernel_rfl) (by kernel_rfl) (fun _ _ _ h => h) hH ⟨?_, fun w hSw => ?_⟩ ?_
    rotate_left 1
    · rfl
    · (go_simp; all_goals with_reducible rfl)
    simp only [Act.put, List.setIfInBounds_toArray, List.set_cons_zero, List.set_cons_succ]
    refine held_step (i := 4) rfl (by kernel_rfl) ?_ (fun K hK => ?_)
    · rfl
    clear hH
    go_simp
    refine (CS.out _ HBa.out.2).mono ?_
    rintro e w4 ⟨dv, rfl, hown4, hb4⟩
    have HB4 : Hid (Sd w w.heap.size _ w4) := HBa.out.next hb4 (by rfl) (by rfl) (by rfl) (by rfl)
    have HO4 := Lib.hid hown4
    obtain ⟨A4, cA4, rfl, hbs4, -, hn4, hm4, hA4⟩ := own_bytes HO4.out HDB.out
    have HRC := Lib.hid (CR.out w4 A4 cA4 (sl_own hn4 hm4 hA4) (own_way hA4) hbs4)
    clear hb4 hown4 hbs4 hn4 hm4 hA4
    have hH := four_cells HB4.out.1
    refine hK _ _ hH ?_
    clear hK K
    simp only [List.setIfInBounds_toArray, List.set_cons_zero, List.set_cons_succ]
    refine held_step (i := 8) rfl (by kernel_rfl) ?_ (fun K hK => ?_)
    · rfl
    clear hH
    go_simp
    refine HRC.out.mono ?_
    rintro e w5 ⟨v5, l5, rfl, hr5, hs5, hb5⟩
    have HB5 : Hid (Sd w w.heap.size _ w5) := HB4.out.next hb5 (by rfl) (by rfl) (by rfl) (by rfl)
    have HF5 := Lib.hid (And.intro (hr5.mono HB4.out.2.size) hs5)
    clear hb5 hr5 hs5
    have hH := four_cells HB5.out.1
    refine hK _ _ hH ?_
    clear hK K
    simp only [List.setIfInBounds_toArray, List.set_cons_zero, List.set_cons_succ]
    refine held_take (i := 9) (v := ?_) (d := some 8) rfl rfl (by kernel_rfl) (by kernel_rfl) (by kernel_rfl) (fun _ _ _ h => h) hH ⟨?_, fun w hSw => ?_⟩ ?_
    rotate_left 1
    · rfl
    · (go_simp; all_goals with_reducible rfl)
    simp only [Act.put, List.setIfInBounds_toArray, List.set_cons_zero, List.set_cons_succ]
    refine wpAnyH_done (by kernel_rfl) ?_ _
    go_wp2_with fail
    go_ret
    exact ⟨_, l5, rfl, HF5.out.1, HF5.out.2, HB5.out.2⟩
  · have HREG : Hid (Sc.region img ⟨a, b, c, d⟩ slot seq = []) := if_neg fun h => hsq h.2
    rw [HREG.out]
    have HW : Hid (decide (seq < 1) = true ∨ (decide (seq < 1) = false ∧ decide (281474976710655 < seq) = true)) := by
      rcases Int.lt_or_le seq 1 with h | h
      · exact .inl (by simpa using h)
      · exact .inr ⟨by simp only [decide_eq_false_iff_not]; omega, by simp only [decide_eq_true_eq]; omega⟩
    clear HREG hb hsq
    go_enter Tryz.func11, Tryz.ntmps11
    go_upto_region 1 with fail
    generalize w.alloc (.cells #[.int .i64 a, .int .i64 b, .int .i64 c, .int .i64 d] 29) = w0 at *
    rcases HW.out with f0 | ⟨f0, f1⟩
    · go_wp2_with fail
      go_ret
      exact ⟨_, [], rfl, FRow.nil, rfl, HS0.out.2⟩
    · go_wp2_with fail
      go_ret
      exact ⟨_, [], rfl, FRow.nil, rfl, HS0.out.2⟩
end Go.Proofs.YtgnbmmceffolmaaGreatDoor
