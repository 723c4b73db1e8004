/-
  The texts ScRegion, ScEq of this proof, one behind the other.
-/
import Derived.Test.YtgnbmmceffolmaaGreatDoorFoldQ
import Derived.Test.YtgnbmmceffolmaaGreatDoorFoldP
import Derived.Deep.DeepCutAuto
import Derived.Deep.CutBlock
section
set_option maxRecDepth 100000
namespace Go.Proofs.YtgnbmmceffolmaaGreatDoor
open Go.RowKit
/-- Bytes behind B, apart from the block q. -/
def Ap (w : World) (B q : Nat) (A : Option Addr) (l : List Nat) : Prop := ∃ lo hi, BsIn w lo hi A l ∧ hi ≤ w.heap.size ∧ B ≤ lo ∧ (q < lo ∨ hi ≤ q)
theorem Ap.stored {w w' : World} {B q : Nat} {A : Option Addr} {l : List Nat} (h : Ap w B q A l) (hg : w.grownBy w' (some q)) : Ap w' B q A l := by
  obtain ⟨lo, hi, h1, h2, h3, h4⟩ := h
  exact ⟨lo, hi, h1.keep fun b hb1 hb2 => hg.block b (by omega) fun e => by injection e with e; omega, Nat.le_trans h2 hg.size, h3, h4⟩
theorem Ap.offv {w : World} {B q : Nat} {A : Option Addr} {l : List Nat} {v : Value} (h : Ap w B q A l) (hv : ∀ g, v.ownBlock = some g → g < B) : OffV w v A l := by
  obtain ⟨lo, hi, h1, h2, h3, h4⟩ := h
  exact ⟨lo, hi, h1, h2, fun g e => .inl (by have := hv g e; omega)⟩
theorem Ap.new {w w' : World} {B q : Nat} {A : Option Addr} {l : List Nat} (h : Ap w B q A l) (hb : Below w.heap.size w w') : Ap w' B q A l := by
  obtain ⟨lo, hi, h1, h2, h3, h4⟩ := h
  exact ⟨lo, hi, h1.keep fun b _ hb2 => hb.block b (by omega), Nat.le_trans h2 hb.size, h3, h4⟩
/-- The contract of Decode for the walk of a stream. -/
theorem decode_next (v seq : Int) (D : List Nat) (off : Nat) (hseq : seq ≤ 9223372036854775807) (ho : off < D.length) (h0 : D.getD off 0 ≠ 0) :
    ∃ t rc n, Sc.Next v seq D off t rc n ∧ ∀ (W : World) (A : Option Addr) (B c : Nat), B ≤ W.heap.size → SlIs A (D.length - off) c → Bs W B A (D.drop off) → TabW W → 0 < W.heap.size →
      Calls Tryz.prog 36 #[.int .i64 v, .int .i64 seq, .int .i64 (off : Int), .slice A (D.length - off) c] W (RecIs W t rc (n : Int)) := by
  by_cases hg : Rc.good v seq (off : Int) (D.drop off)
  · refine ⟨true, _, _, next_good ho h0 hg, fun W A B c hB hs hb ht hz => ?_⟩
    exact (decode_good v seq (off : Int) A B _ c (D.drop off) W hB hseq hs.1 hs.2.1 hs.2.2 (List.length_drop) hb ht hz hg).mono fun e w' h => recis_got hg h
  · refine ⟨false, _, _, next_bad ho h0 hg, fun W A B c hB hs hb ht hz => ?_⟩
    exact (decode_not v seq (off : Int) A B _ c (D.drop off) W hB hseq hs.1 hs.2.1 hs.2.2 (List.length_drop) hb ht hz hg).mono fun e w' h => recis_no h
set_option maxHeartbeats 4000000 in
theorem scregion_any (a b c d slot seq : Int) {g cb mb nn : Nat} {fs : Flash} (w : World) (hd : Hid (Dev w g cb mb nn fs)) (ht : Hid (TabW w)) (hz : 0 < w.heap.size) :
    Calls Tryz.prog 10 #[.pointer (some ⟨g, 0, none⟩), .agg #[.int .i64 a, .int .i64 b, .int .i64 c, .int .i64 d], .int .i64 slot, .int .i64 seq] w (FoundIs w (Sc.region fs.seen ⟨a, b, c, d⟩ slot seq)) := by
  have CI := Lib.hid (fun W => scisregion_any a b c d slot seq W)
  have HS0 := Lib.hid (sd_new w #[.int .i64 a, .int .i64 b, .int .i64 c, .int .i64 d] 29)
  unfold FoundIs
  by_cases hok : Pk.ok ⟨a, b, c, d⟩ slot seq
  · have HOK := Lib.hid (decide_eq_true hok)
    rw [HOK.out] at CI
    have hcap := Pk.cap_eq hok.1.1
    have HREG : Hid (Sc.region fs.seen ⟨a, b, c, d⟩ slot seq = Sc.recs b seq (Sc.stream fs.seen ⟨a, b, c, d⟩ slot seq 0 ((Pk.cap ⟨a, b, c, d⟩ + 58) / 59)) 0) := by
      show _ = _
      unfold Sc.region
      rw [if_pos hok]
      have : (Pk.cap ⟨a, b, c, d⟩ + 58) / 59 = ((⟨a, b, c, d⟩ : Sb.L).rs - 1).toNat := by unfold Pk.cap; simp only; omega
      rw [this]
    have CC : Hid (∀ W, Calls Tryz.prog 34 #[.agg #[.int .i64 a, .int .i64 b, .int .i64 c, .int .i64 d]] W fun r w' => r = .returned (.int .i64 (Pk.cap ⟨a, b, c, d⟩ : Int)) ∧ Below W.heap.size W w') := fun W => by rw [← hcap.1]; exact gmcap_any a b c d W
    have CS : Hid (∀ W, Below w.heap.size w W → Calls Tryz.prog 33 #[.pointer (some ⟨g, 0, none⟩), .agg #[.int .i64 a, .int .i64 b, .int .i64 c, .int .i64 d], .int .i64 slot, .int .i64 seq, .int .i64 (Pk.cap ⟨a, b, c, d⟩ : Int)] W (BytesIs W (Sc.stream fs.seen ⟨a, b, c, d⟩ slot seq 0 ((Pk.cap ⟨a, b, c, d⟩ + 58) / 59)))) := fun W hW =>
      scstream_any a b c d slot seq _ W hok hcap.2.2.1 (Lib.hid (hd.out.below hW hd.out.lt.1 hd.out.lt.2.1 hd.out.lt.2.2)) (ht.out.below hW hz) (Nat.lt_of_lt_of_le hz hW.size)
    have HDL : (Sc.stream fs.seen ⟨a, b, c, d⟩ slot seq 0 ((Pk.cap ⟨a, b, c, d⟩ + 58) / 59)).length ≤ 120832 := by
      have := Sc.stream_len (img := fs.seen) (l := ⟨a, b, c, d⟩) (slot := slot) (seq := seq) ((Pk.cap ⟨a, b, c, d⟩ + 58) / 59) 0
      omega
    have HDB : Hid (∀ x ∈ Sc.stream fs.seen ⟨a, b, c, d⟩ slot seq 0 ((Pk.cap ⟨a, b, c, d⟩ + 58) / 59), x < 256) := Sc.stream_lt (fun x hx => by
      unfold Flash.seen at hx
      split at hx
      · cases hx
      · exact hd.out.cur_lt x hx) _ _
    rw [HREG.out]
    have HSQ : Hid (seq ≤ 9223372036854775807) := by show _ ≤ _; have := hok.2.2; omega
    unfold BytesIs at CS
    clear hd HREG hok HOK hcap
    generalize Sc.stream fs.seen ⟨a, b, c, d⟩ slot seq 0 ((Pk.cap ⟨a, b, c, d⟩ + 58) / 59) = D at *
    generalize Pk.cap ⟨a, b, c, d⟩ = cp at *
    have HT := ht
    clear ht
    go_enter Tryz.func10, Tryz.ntmps10
    go_upto_region 1 with fail
    generalize w.alloc (.cells #[.int .i64 a, .int .i64 b, .int .i64 c, .int .i64 d] 29) = w0 at *
    obtain ⟨z0, z1, z2, z3⟩ := four_cells HS0.out.1
    go_wp2_with fail
    refine (CI.out _).mono ?_
    rintro r w1 ⟨rfl, hb1⟩
    have HS1 := Lib.hid (HS0.out.next hb1 (by rfl) (by rfl) (by rfl) (by rfl))
    clear hb1 CI z0 z1 z2 z3 HS0
    have HL1 := Lib.hid (four_cells HS1.out.1)
    have HCL : Hid (∀ W, Below w1.heap.size w1 W → (W.cell? ⟨w.heap.size, 0, none⟩ = some (.int .i64 a) ∧ W.cell? ⟨w.heap.size, 1, none⟩ = some (.int .i64 b) ∧ W.cell? ⟨w.heap.size, 2, none⟩ = some (.int .i64 c) ∧ W.cell? ⟨w.heap.size, 3, none⟩ = some (.int .i64 d)) ∧ Below w.heap.size w W) := fun W hW => ⟨four_cells ((hW.block _ (Array.getElem?_eq_some_iff.1 HS1.out.1).1).trans HS1.out.1), HS1.out.2.trans (hW.mono HS1.out.2.size)⟩
    have HD1 : Hid (Below w1.heap.size w1 w1.drew) := below_drewN w1 1
    go_wp2_with fail
    go_region_held3 (fun W' => W'.cell? ⟨w.heap.size, 0, none⟩ = some (.int .i64 a) ∧ W'.cell? ⟨w.heap.size, 1, none⟩ = some (.int .i64 b) ∧ W'.cell? ⟨w.heap.size, 2, none⟩ = some (.int .i64 c) ∧ W'.cell? ⟨w.heap.size, 3, none⟩ = some (.int .i64 d))
      (first
        | (revert HB4; intro HB4; with_reducible exact (HCL.out _ HB4.out).1)
        | (revert HB3; intro HB3; with_reducible exact (HCL.out _ HB3.out).1)
        | exact (HCL.out _ HD1.out).1)
      (first
        | (go_at_call 34; refine (CC.out _).mono ?_; rintro e w3 ⟨rfl, hb3⟩; have HB3 := Lib.hid (HD1.out.trans (hb3.mono HD1.out.size)); clear hb3)
        | (go_at_call 33; refine (CS.out _ (HCL.out _ HB3.out).2).mono ?_; rintro e w4 ⟨dv, rfl, hown4, hb4⟩; have HB4 := Lib.hid (HB3.out.trans (hb4.mono HB3.out.size)); have HO4 := Lib.hid hown4; clear hb4 hown4))
    obtain ⟨A, cA, rfl, hbs, hl, hn, hm, hA⟩ := own_bytes HO4.out HDB.out
    have HSA : Hid (SlIs A D.length cA) := sl_own hn hm hA
    have HBS := Lib.hid hbs
    have HAB : Hid (∀ (W : World) (k : Nat), Below w4.heap.size w4 W → k < D.length → ∃ ad, A = some ad ∧ W.cell? (ad.add k) = some (.int .u8 ((D.getD k 0 : Nat) : Int))) := fun W k hW hk => by
      obtain ⟨-, ad, e1, e2, e3⟩ := hbs k hk
      exact ⟨ad, e1, (World.cell?_of_block (hW.block _ (by rw [add_block]; exact e2))).trans e3⟩
    have HCL4 := Lib.hid (HCL.out _ HB4.out)
    have HC9 : Hid (∀ W, Below w4.heap.size w4 W → W.cell? ⟨w.heap.size, 1, none⟩ = some (.int .i64 b)) := fun W hW => (cell_on hW HCL4.out.1.2.1)
    have hnc : D.length ≤ cA := hn
    have hcm : cA ≤ 9223372036854775807 := by unfold maxLen at hm; exact hm
    have HAA : Hid (A = none ∨ ∃ ga, A = some ⟨ga, 0, none⟩ ∧ ga < w4.heap.size) := by
      rcases hA with ⟨h, -⟩ | ⟨ga, h, -, h3⟩
      · exact .inl h
      · exact .inr ⟨ga, h, h3⟩
    clear hbs hl hn hm hA HO4 HL1
    generalize hN : D.length = N at *
    have HN := Lib.hid hN
    clear hN
    have HB4W : Hid (Below w.heap.size w w4) := HCL4.out.2
    go_wp2_with fail
    go_loopw [10, 11] (fun fv iv wr => ∃ (off : Nat) (l : List Fd), iv = .int .i64 (off : Int) ∧ off ≤ N + 59 ∧ 16 * l.length ≤ off ∧ Hid (Sc.Walked b seq D off l) ∧ Hid (FRow wr w4.heap.size fv l) ∧ Hid (Below w4.heap.size w4 wr)) (fun _ iv _ => N + 59 - (Go.RowKit.intOf iv).toNat)
    case atStart => exact ⟨0, [], rfl, by omega, Nat.le_refl _, rfl, FRow.nil, Below.refl _ _⟩
    case round =>
      obtain ⟨off, l, rfl, hle, h16, hwk, hrow, hbel⟩ := hrel
      by_cases hlt : off < N
      · have hd1 : decide ((off : Int) < (N : Int)) = true := by simp only [decide_eq_true_eq]; omega
        obtain ⟨ad, e, hcell⟩ := HAB.out wr off hbel.out hlt
        rcases HAA.out with rfl | ⟨ga, rfl, hga⟩
        · cases e
        injection e with e
        subst e
        rw [arr_flat, Nat.zero_add] at hcell
        have hoff : (off : Int) ≤ (N : Int) := by omega
        by_cases h0 : D.getD off 0 = 0
        · have HNX : Hid (Sc.Walked b seq D ((off / 59 + 1) * 59) l) := walked_skip hwk.out (by rw [HN.out]; exact hlt) h0
          have HC := Lib.hid (scnext_any off (by omega) wr)
          have hle2 : (off / 59 + 1) * 59 ≤ N + 59 := by omega
          have h162 : 16 * l.length ≤ (off / 59 + 1) * 59 := by omega
          rw [h0] at hcell
          clear h0
          go_wp2_with fail
          refine HC.out.mono ?_
          rintro e w5 ⟨rfl, rfl⟩
          have hmea : N + 59 - (off / 59 + 1) * 59 < N + 59 - off := by omega
          generalize (off / 59 + 1) * 59 = off2 at *
          go_wp2_with fail
          go_roundw
          case rel => exact ⟨off2, l, rfl, hle2, h162, HNX, hrow, hbel⟩
          case measure => simp [Go.RowKit.intOf]; omega
        · obtain ⟨t, rc, n, hnx, hdec⟩ := decode_next b seq D off HSQ.out (by rw [HN.out]; exact hlt) h0
          have HNX := Lib.hid hnx
          have HDE : Hid (∀ W, Below wr.heap.size wr W → Calls Tryz.prog 36 #[.int .i64 b, .int .i64 seq, .int .i64 (off : Int), .slice (some ⟨ga, off, none⟩) (N - off) (cA - off)] W (RecIs W t rc (n : Int))) := fun W hW => by
            have hB4 : Below w4.heap.size w4 W := hbel.out.trans (hW.mono hbel.out.size)
            have := hdec W (some ⟨ga, off, none⟩) w4.heap.size (cA - off) hB4.size ⟨(fun e => by cases e), by rw [HN.out]; omega, by omega⟩ (by
              have h2 := bs_drop (HBS.out.below hB4 (Nat.le_refl _)) off
              rw [Option.map_some, arr_flat, Nat.zero_add] at h2
              exact h2) (HT.out.below (HB4W.out.trans (hB4.mono HB4W.out.size)) hz) (Nat.lt_of_lt_of_le hz (HB4W.out.trans (hB4.mono HB4W.out.size)).size)
            rwa [HN.out] at this
          unfold RecIs at HDE
          have HCR : Hid (∀ W, Below wr.heap.size wr W → W.cell? ⟨w.heap.size, 1, none⟩ = some (.int .i64 b)) := fun W hW => HC9.out W (hbel.out.trans (hW.mono hbel.out.size))
          have HC9 := HCR
          clear HCR
          have hne : ¬ (cA = off) := by omega
          obtain ⟨x, hx⟩ : ∃ x, D.getD off 0 = x := ⟨_, rfl⟩
          rw [hx] at hcell h0
          have f1 : ((x : Int) == 0) = false := by rw [beq_eq_false_iff_ne]; omega
          clear hx h0 hnx hdec
          go_upto_region 9 with fail
          go_cut [12, 13, 14] (fun s12 s13 s14 wx => ∃ q B1 d1 B2 d2, s12 = .pointer (some ⟨q, 0, none⟩) ∧ s13 = .int .i64 (n : Int) ∧ s14 = .bool t ∧ Hid (wx.heap[q]? = some (.cells #[.int .i64 rc.kind, .slice B1 rc.key.length d1, .slice B2 rc.val.length d2, .int .i64 rc.exp] 55 (0, 0))) ∧ Hid (SlIs B1 rc.key.length d1 ∧ SlIs B2 rc.val.length d2) ∧ Hid (Ap wx wr.heap.size q B1 rc.key ∧ Ap wx wr.heap.size q B2 rc.val) ∧ Hid (Below wr.heap.size wr wx))
          case first =>
            go_wp2_with fail
            have HBa : Hid (Below wr.heap.size wr wr.drew) := below_drewN wr 1
            refine wp_region_held_drew (S := fun W => W.cell? ⟨w.heap.size, 1, none⟩ = some (.int .i64 b)) (by kernel_rfl) (HC9.out _ HBa.out) (fun hH => ?_)
            change wpAnyH _ _ _ _ _ 16 #[false, false, false, false, false, false, false, false, false, false, false, false, false, false, false, false] _ _
            clear hH
            generalize wr.drew = wa at *
            refine held_take (i := 0) (v := ?_) (d := some 39) rfl rfl (by kernel_rfl) (by kernel_rfl) (by kernel_rfl) (fun _ _ _ h => h) (HC9.out _ HBa.out) ⟨?_, fun w hSw => ?_⟩ ?_
            rotate_left 1
            · rfl
            · (go_simp; all_goals with_reducible rfl)
            simp only [Act.put, List.setIfInBounds_toArray, List.set_cons_zero, List.set_cons_succ]
            refine held_take (i := 1) (v := ?_) (d := some 40) rfl rfl (by kernel_rfl) (by kernel_rfl) (by kernel_rfl) (fun _ _ _ h => h) (HC9.out _ HBa.out) ⟨?_, fun w hSw => ?_⟩ ?_
            rotate_left 1
            · rfl
            · have y1 := hSw
              (go_simp; all_goals with_reducible rfl)
            simp only [Act.put, List.setIfInBounds_toArray, List.set_cons_zero, List.set_cons_succ]
            refine held_take (i := 2) (v := ?_) (d := some 41) rfl rfl (by kernel_rfl) (by kernel_rfl) (by kernel_rfl) (fun _ _ _ h => h) (HC9.out _ HBa.out) ⟨?_, fun w hSw => ?_⟩ ?_
            rotate_left 1
            · rfl
            · (go_simp; all_goals with_reducible rfl)
            simp only [Act.put, List.setIfInBounds_toArray, List.set_cons_zero, List.set_cons_succ]
            refine held_take (i := 3) (v := ?_) (d := some 42) rfl rfl (by kernel_rfl) (by kernel_rfl) (by kernel_rfl) (fun _ _ _ h => h) (HC9.out _ HBa.out) ⟨?_, fun w hSw => ?_⟩ ?_
            rotate_left 1
            · rfl
            · (go_simp; all_goals with_reducible rfl)
            simp only [Act.put, List.setIfInBounds_toArray, List.set_cons_zero, List.set_cons_succ]
            refine held_take (i := 4) (v := ?_) (d := some 43) rfl rfl (by kernel_rfl) (by kernel_rfl) (by kernel_rfl) (fun _ _ _ h => h) (HC9.out _ HBa.out) ⟨?_, fun w hSw => ?_⟩ ?_
            rotate_left 1
            · rfl
            · (go_simp; all_goals with_reducible rfl)
            simp only [Act.put, List.setIfInBounds_toArray, List.set_cons_zero, List.set_cons_succ]
            refine held_take (i := 5) (v := ?_) (d := some 44) rfl rfl (by kernel_rfl) (by kernel_rfl) (by kernel_rfl) (fun _ _ _ h => h) (HC9.out _ HBa.out) ⟨?_, fun w hSw => ?_⟩ ?_
            rotate_left 1
            · rfl
            · (go_simp; all_goals with_reducible rfl)
            simp only [Act.put, List.setIfInBounds_toArray, List.set_cons_zero, List.set_cons_succ]
            refine held_take (i := 6) (v := ?_) (d := some 45) rfl rfl (by kernel_rfl) (by kernel_rfl) (by kernel_rfl) (fun _ _ _ h => h) (HC9.out _ HBa.out) ⟨?_, fun w hSw => ?_⟩ ?_
            rotate_left 1
            · rfl
            · (go_simp; all_goals with_reducible rfl)
            simp only [Act.put, List.setIfInBounds_toArray, List.set_cons_zero, List.set_cons_succ]
            refine hold_two (i := 7) (j := 12) rfl rfl (by kernel_rfl) (by rfl) (by rfl) (fun K hK => ?_) (fun K hK => ?_)
            · go_simp
              refine (HDE.out _ HBa.out).mono ?_
              rintro e w1x ⟨B11, d11, B12, d12, rfl, s11, s12, h11, h12, hb1⟩
              have HB1 := Lib.hid (HBa.out.trans (hb1.mono HBa.out.size))
              have HK1 := Lib.hid (And.intro h11 h12)
              have HS1 := Lib.hid (And.intro s11 s12)
              have HO1 : Hid (wr.heap.size ≤ wa.heap.size) := HBa.out.size
              clear h11 h12 hb1 s11 s12
              refine hK _ _ (HC9.out _ HB1.out) ?_
              clear hK K
              simp only [List.setIfInBounds_toArray, List.set_cons_zero, List.set_cons_succ]
              refine held_take (i := 8) (v := ?_) (d := some 38) rfl rfl (by kernel_rfl) (by kernel_rfl) (by kernel_rfl) (fun _ _ _ h => h) (HC9.out _ HB1.out) ⟨?_, fun w hSw => ?_⟩ ?_
              rotate_left 1
              · rfl
              · (go_simp; all_goals with_reducible rfl)
              simp only [Act.put, List.setIfInBounds_toArray, List.set_cons_zero, List.set_cons_succ]
              refine held_take (i := 9) (v := ?_) (d := some 47) rfl rfl (by kernel_rfl) (by kernel_rfl) (by kernel_rfl) (fun _ _ _ h => h) (HC9.out _ HB1.out) ⟨?_, fun w hSw => ?_⟩ ?_
              rotate_left 1
              · rfl
              · (go_simp; all_goals with_reducible rfl)
              simp only [Act.put, List.setIfInBounds_toArray, List.set_cons_zero, List.set_cons_succ]
              refine held_take (i := 10) (v := ?_) (d := some 48) rfl rfl (by kernel_rfl) (by kernel_rfl) (by kernel_rfl) (fun _ _ _ h => h) (HC9.out _ HB1.out) ⟨?_, fun w hSw => ?_⟩ ?_
              rotate_left 1
              · rfl
              · (go_simp; all_goals with_reducible rfl)
              simp only [Act.put, List.setIfInBounds_toArray, List.set_cons_zero, List.set_cons_succ]
              refine held_take (i := 11) (v := ?_) (d := some 49) rfl rfl (by kernel_rfl) (by kernel_rfl) (by kernel_rfl) (fun _ _ _ h => h) (HC9.out _ HB1.out) ⟨?_, fun w hSw => ?_⟩ ?_
              rotate_left 1
              · rfl
              · (go_simp; all_goals with_reducible rfl)
              simp only [Act.put, List.setIfInBounds_toArray, List.set_cons_zero, List.set_cons_succ]
              refine held_step (i := 12) rfl (by kernel_rfl) ?_ (fun K hK => ?_)
              · rfl
              go_simp
              have HL2 : Hid (Below w1x.heap.size w1x (w1x.alloc (.cells #[.int .i64 0, .slice none 0 0, .slice none 0 0, .int .i64 0] 55))) := (Below.refl _ _).alloc (Nat.le_refl _) _
              have HB2 := Lib.hid (HB1.out.trans (HL2.out.mono HB1.out.size))
              have HX2 := Lib.hid (heap_alloc_new w1x (.cells #[.int .i64 0, .slice none 0 0, .slice none 0 0, .int .i64 0] 55))
              have HQ2 : Hid (wr.heap.size ≤ w1x.heap.size) := HB1.out.size
              have HF2 : Hid (Ap (w1x.alloc (.cells #[.int .i64 0, .slice none 0 0, .slice none 0 0, .int .i64 0] 55)) wr.heap.size w1x.heap.size B11 rc.key ∧ Ap (w1x.alloc (.cells #[.int .i64 0, .slice none 0 0, .slice none 0 0, .int .i64 0] 55)) wr.heap.size w1x.heap.size B12 rc.val) := ⟨⟨_, _, HK1.out.1.keep (fun x _ hx => HL2.out.block x hx), HL2.out.size, HO1.out, .inr (Nat.le_refl _)⟩, ⟨_, _, HK1.out.2.keep (fun x _ hx => HL2.out.block x hx), HL2.out.size, HO1.out, .inr (Nat.le_refl _)⟩⟩
              generalize w1x.alloc (.cells #[.int .i64 0, .slice none 0 0, .slice none 0 0, .int .i64 0] 55) = w2x at *
              generalize w1x.heap.size = q2 at *
              refine hK _ _ (HC9.out _ HB2.out) ?_
              clear hK K
              simp only [List.setIfInBounds_toArray, List.set_cons_zero, List.set_cons_succ]
              refine held_step (i := 13) rfl (by kernel_rfl) ?_ (fun K hK => ?_)
              · rfl
              obtain ⟨z0, z1, z2, z3⟩ := four_cells HX2.out
              obtain ⟨g0, g1, g2, g3⟩ := four_frozen HX2.out
              go_simp
              have HG3 : Hid (w2x.grownBy ((((w2x.setCell ⟨q2, 0, none⟩ (.int .i64 rc.kind)).setCell ⟨q2, 1, none⟩ (.slice B11 rc.key.length d11)).setCell ⟨q2, 2, none⟩ (.slice B12 rc.val.length d12)).setCell ⟨q2, 3, none⟩ (.int .i64 rc.exp)) (some q2)) := stored_grown w2x q2 _ _ _ _
              have HX3 : Hid (((((w2x.setCell ⟨q2, 0, none⟩ (.int .i64 rc.kind)).setCell ⟨q2, 1, none⟩ (.slice B11 rc.key.length d11)).setCell ⟨q2, 2, none⟩ (.slice B12 rc.val.length d12)).setCell ⟨q2, 3, none⟩ (.int .i64 rc.exp)).heap[q2]? = some (.cells #[.int .i64 rc.kind, .slice B11 rc.key.length d11, .slice B12 rc.val.length d12, .int .i64 rc.exp] 55 (0, 0))) := stored HX2.out
              have HB3 : Hid (Below wr.heap.size wr ((((w2x.setCell ⟨q2, 0, none⟩ (.int .i64 rc.kind)).setCell ⟨q2, 1, none⟩ (.slice B11 rc.key.length d11)).setCell ⟨q2, 2, none⟩ (.slice B12 rc.val.length d12)).setCell ⟨q2, 3, none⟩ (.int .i64 rc.exp))) := HB2.out.trans (below_of_grown HG3.out HQ2.out HB2.out.size)
              have HK3 : Hid (Ap ((((w2x.setCell ⟨q2, 0, none⟩ (.int .i64 rc.kind)).setCell ⟨q2, 1, none⟩ (.slice B11 rc.key.length d11)).setCell ⟨q2, 2, none⟩ (.slice B12 rc.val.length d12)).setCell ⟨q2, 3, none⟩ (.int .i64 rc.exp)) wr.heap.size q2 B11 rc.key ∧ Ap ((((w2x.setCell ⟨q2, 0, none⟩ (.int .i64 rc.kind)).setCell ⟨q2, 1, none⟩ (.slice B11 rc.key.length d11)).setCell ⟨q2, 2, none⟩ (.slice B12 rc.val.length d12)).setCell ⟨q2, 3, none⟩ (.int .i64 rc.exp)) wr.heap.size q2 B12 rc.val) := ⟨HF2.out.1.stored HG3.out, HF2.out.2.stored HG3.out⟩
              clear HG3 z0 z1 z2 z3 g0 g1 g2 g3
              generalize ((((w2x.setCell ⟨q2, 0, none⟩ (.int .i64 rc.kind)).setCell ⟨q2, 1, none⟩ (.slice B11 rc.key.length d11)).setCell ⟨q2, 2, none⟩ (.slice B12 rc.val.length d12)).setCell ⟨q2, 3, none⟩ (.int .i64 rc.exp)) = w3x at *
              refine hK _ _ (HC9.out _ HB3.out) ?_
              clear hK K
              simp only [List.setIfInBounds_toArray, List.set_cons_zero, List.set_cons_succ]
              refine held_take (i := 14) (v := ?_) (d := some 13) rfl rfl (by kernel_rfl) (by kernel_rfl) (by kernel_rfl) (fun _ _ _ h => h) (HC9.out _ HB3.out) ⟨?_, fun w hSw => ?_⟩ ?_
              rotate_left 1
              · rfl
              · (go_simp; all_goals with_reducible rfl)
              simp only [Act.put, List.setIfInBounds_toArray, List.set_cons_zero, List.set_cons_succ]
              refine held_take (i := 15) (v := ?_) (d := some 14) rfl rfl (by kernel_rfl) (by kernel_rfl) (by kernel_rfl) (fun _ _ _ h => h) (HC9.out _ HB3.out) ⟨?_, fun w hSw => ?_⟩ ?_
              rotate_left 1
              · rfl
              · (go_simp; all_goals with_reducible rfl)
              simp only [Act.put, List.setIfInBounds_toArray, List.set_cons_zero, List.set_cons_succ]
              refine wpAnyH_done (by kernel_rfl) ?_ _
              (try go_wp2_with fail)
              go_meet
              exact ⟨_, _, _, _, _, rfl, rfl, rfl, HX3.out, HS1.out, HK3.out, HB3.out⟩
            · go_simp
              have HL4 : Hid (Below wa.heap.size wa (wa.alloc (.cells #[.int .i64 0, .slice none 0 0, .slice none 0 0, .int .i64 0] 55))) := (Below.refl _ _).alloc (Nat.le_refl _) _
              have HB4 := Lib.hid (HBa.out.trans (HL4.out.mono HBa.out.size))
              have HX4 := Lib.hid (heap_alloc_new wa (.cells #[.int .i64 0, .slice none 0 0, .slice none 0 0, .int .i64 0] 55))
              have HQ4 : Hid (wr.heap.size ≤ wa.heap.size) := HBa.out.size
              generalize wa.alloc (.cells #[.int .i64 0, .slice none 0 0, .slice none 0 0, .int .i64 0] 55) = w4x at *
              generalize wa.heap.size = q4 at *
              refine hK _ _ (HC9.out _ HB4.out) ?_
              clear hK K
              simp only [List.setIfInBounds_toArray, List.set_cons_zero, List.set_cons_succ]
              refine held_step (i := 7) rfl (by kernel_rfl) ?_ (fun K hK => ?_)
              · rfl
              go_simp
              refine (HDE.out _ HB4.out).mono ?_
              rintro e w5x ⟨B51, d51, B52, d52, rfl, s51, s52, h51, h52, hb5⟩
              have HB5 := Lib.hid (HB4.out.trans (hb5.mono HB4.out.size))
              have HK5 := Lib.hid (And.intro h51 h52)
              have HS5 := Lib.hid (And.intro s51 s52)
              have HO5 : Hid (wr.heap.size ≤ w4x.heap.size) := HB4.out.size
              have HF5 : Hid (Ap w5x wr.heap.size q4 B51 rc.key ∧ Ap w5x wr.heap.size q4 B52 rc.val) := ⟨⟨_, _, h51, Nat.le_refl _, HO5.out, .inl (Array.getElem?_eq_some_iff.1 HX4.out).1⟩, ⟨_, _, h52, Nat.le_refl _, HO5.out, .inl (Array.getElem?_eq_some_iff.1 HX4.out).1⟩⟩
              have HX5 := Lib.hid ((hb5.block _ (Array.getElem?_eq_some_iff.1 HX4.out).1).trans HX4.out)
              clear h51 h52 hb5 s51 s52
              refine hK _ _ (HC9.out _ HB5.out) ?_
              clear hK K
              simp only [List.setIfInBounds_toArray, List.set_cons_zero, List.set_cons_succ]
              refine held_take (i := 8) (v := ?_) (d := some 38) rfl rfl (by kernel_rfl) (by kernel_rfl) (by kernel_rfl) (fun _ _ _ h => h) (HC9.out _ HB5.out) ⟨?_, fun w hSw => ?_⟩ ?_
              rotate_left 1
              · rfl
              · (go_simp; all_goals with_reducible rfl)
              simp only [Act.put, List.setIfInBounds_toArray, List.set_cons_zero, List.set_cons_succ]
              refine held_take (i := 9) (v := ?_) (d := some 47) rfl rfl (by kernel_rfl) (by kernel_rfl) (by kernel_rfl) (fun _ _ _ h => h) (HC9.out _ HB5.out) ⟨?_, fun w hSw => ?_⟩ ?_
              rotate_left 1
              · rfl
              · (go_simp; all_goals with_reducible rfl)
              simp only [Act.put, List.setIfInBounds_toArray, List.set_cons_zero, List.set_cons_succ]
              refine held_take (i := 10) (v := ?_) (d := some 48) rfl rfl (by kernel_rfl) (by kernel_rfl) (by kernel_rfl) (fun _ _ _ h => h) (HC9.out _ HB5.out) ⟨?_, fun w hSw => ?_⟩ ?_
              rotate_left 1
              · rfl
              · (go_simp; all_goals with_reducible rfl)
              simp only [Act.put, List.setIfInBounds_toArray, List.set_cons_zero, List.set_cons_succ]
              refine held_take (i := 11) (v := ?_) (d := some 49) rfl rfl (by kernel_rfl) (by kernel_rfl) (by kernel_rfl) (fun _ _ _ h => h) (HC9.out _ HB5.out) ⟨?_, fun w hSw => ?_⟩ ?_
              rotate_left 1
              · rfl
              · (go_simp; all_goals with_reducible rfl)
              simp only [Act.put, List.setIfInBounds_toArray, List.set_cons_zero, List.set_cons_succ]
              refine held_step (i := 13) rfl (by kernel_rfl) ?_ (fun K hK => ?_)
              · rfl
              obtain ⟨z0, z1, z2, z3⟩ := four_cells HX5.out
              obtain ⟨g0, g1, g2, g3⟩ := four_frozen HX5.out
              go_simp
              have HG6 : Hid (w5x.grownBy ((((w5x.setCell ⟨q4, 0, none⟩ (.int .i64 rc.kind)).setCell ⟨q4, 1, none⟩ (.slice B51 rc.key.length d51)).setCell ⟨q4, 2, none⟩ (.slice B52 rc.val.length d52)).setCell ⟨q4, 3, none⟩ (.int .i64 rc.exp)) (some q4)) := stored_grown w5x q4 _ _ _ _
              have HX6 : Hid (((((w5x.setCell ⟨q4, 0, none⟩ (.int .i64 rc.kind)).setCell ⟨q4, 1, none⟩ (.slice B51 rc.key.length d51)).setCell ⟨q4, 2, none⟩ (.slice B52 rc.val.length d52)).setCell ⟨q4, 3, none⟩ (.int .i64 rc.exp)).heap[q4]? = some (.cells #[.int .i64 rc.kind, .slice B51 rc.key.length d51, .slice B52 rc.val.length d52, .int .i64 rc.exp] 55 (0, 0))) := stored HX5.out
              have HB6 : Hid (Below wr.heap.size wr ((((w5x.setCell ⟨q4, 0, none⟩ (.int .i64 rc.kind)).setCell ⟨q4, 1, none⟩ (.slice B51 rc.key.length d51)).setCell ⟨q4, 2, none⟩ (.slice B52 rc.val.length d52)).setCell ⟨q4, 3, none⟩ (.int .i64 rc.exp))) := HB5.out.trans (below_of_grown HG6.out HQ4.out HB5.out.size)
              have HK6 : Hid (Ap ((((w5x.setCell ⟨q4, 0, none⟩ (.int .i64 rc.kind)).setCell ⟨q4, 1, none⟩ (.slice B51 rc.key.length d51)).setCell ⟨q4, 2, none⟩ (.slice B52 rc.val.length d52)).setCell ⟨q4, 3, none⟩ (.int .i64 rc.exp)) wr.heap.size q4 B51 rc.key ∧ Ap ((((w5x.setCell ⟨q4, 0, none⟩ (.int .i64 rc.kind)).setCell ⟨q4, 1, none⟩ (.slice B51 rc.key.length d51)).setCell ⟨q4, 2, none⟩ (.slice B52 rc.val.length d52)).setCell ⟨q4, 3, none⟩ (.int .i64 rc.exp)) wr.heap.size q4 B52 rc.val) := ⟨HF5.out.1.stored HG6.out, HF5.out.2.stored HG6.out⟩
              clear HG6 z0 z1 z2 z3 g0 g1 g2 g3
              generalize ((((w5x.setCell ⟨q4, 0, none⟩ (.int .i64 rc.kind)).setCell ⟨q4, 1, none⟩ (.slice B51 rc.key.length d51)).setCell ⟨q4, 2, none⟩ (.slice B52 rc.val.length d52)).setCell ⟨q4, 3, none⟩ (.int .i64 rc.exp)) = w6x at *
              refine hK _ _ (HC9.out _ HB6.out) ?_
              clear hK K
              simp only [List.setIfInBounds_toArray, List.set_cons_zero, List.set_cons_succ]
              refine held_take (i := 14) (v := ?_) (d := some 13) rfl rfl (by kernel_rfl) (by kernel_rfl) (by kernel_rfl) (fun _ _ _ h => h) (HC9.out _ HB6.out) ⟨?_, fun w hSw => ?_⟩ ?_
              rotate_left 1
              · rfl
              · (go_simp; all_goals with_reducible rfl)
              simp only [Act.put, List.setIfInBounds_toArray, List.set_cons_zero, List.set_cons_succ]
              refine held_take (i := 15) (v := ?_) (d := some 14) rfl rfl (by kernel_rfl) (by kernel_rfl) (by kernel_rfl) (fun _ _ _ h => h) (HC9.out _ HB6.out) ⟨?_, fun w hSw => ?_⟩ ?_
              rotate_left 1
              · rfl
              · (go_simp; all_goals with_reducible rfl)
              simp only [Act.put, List.setIfInBounds_toArray, List.set_cons_zero, List.set_cons_succ]
              refine wpAnyH_done (by kernel_rfl) ?_ _
              (try go_wp2_with fail)
              go_meet
              exact ⟨_, _, _, _, _, rfl, rfl, rfl, HX6.out, HS5.out, HK6.out, HB6.out⟩
          case rest =>
            obtain ⟨q, B1, d1, B2, d2, rfl, rfl, rfl, HQ, HSL, HAP, HB⟩ := hcut
            generalize wc = w2 at *
            have HBW : Hid (Below w4.heap.size w4 w2) := hbel.out.trans (HB.out.mono hbel.out.size)
            have HR2 := Lib.hid (hrow.out.new HB.out)
            have HVB : Hid (∀ g, u10.ownBlock = some g → g < wr.heap.size) := fun g e => hrow.out.row.lt e
            have hl0 : l.length ≤ 1000000 := by omega
            clear HDE hcell HC9
            cases t with
            | false =>
              go_wp2_with fail
              go_ret
              exact ⟨_, l, rfl, HR2.out.mono HB4W.out.size, walked_end hwk.out HNX.out.none, HB4W.out.trans (HBW.out.mono HB4W.out.size)⟩
            | true =>
              obtain ⟨hn1, hn2, hn3⟩ := HNX.out.bounds
              have HWK := Lib.hid (walked_one (f := ⟨(off : Int), (n : Int), ⟨rc.kind, rc.exp, B1, B2, rc.key.length, d1, rc.val.length, d2, rc.key, rc.val⟩⟩) hwk.out HNX.out rfl)
              rw [HN.out] at hn2
              have HFB : Hid (Below w2.heap.size w2 (w2.alloc (.cells #[.int .i64 (off : Int), .int .i64 (n : Int), .int .i64 rc.kind, .slice B1 rc.key.length d1, .slice B2 rc.val.length d2, .int .i64 rc.exp] 76))) := (Below.refl _ _).alloc (Nat.le_refl _) _
              have HB3 := Lib.hid (HBW.out.trans (HFB.out.mono HBW.out.size))
              have HR3 := Lib.hid (HR2.out.new HFB.out)
              have HX3 := Lib.hid (heap_alloc_new w2 (.cells #[.int .i64 (off : Int), .int .i64 (n : Int), .int .i64 rc.kind, .slice B1 rc.key.length d1, .slice B2 rc.val.length d2, .int .i64 rc.exp] 76))
              have HPP : Hid (((⟨(off : Int), (n : Int), ⟨rc.kind, rc.exp, B1, B2, rc.key.length, d1, rc.val.length, d2, rc.key, rc.val⟩⟩ : Fd).ok) ∧ OffV (w2.alloc (.cells #[.int .i64 (off : Int), .int .i64 (n : Int), .int .i64 rc.kind, .slice B1 rc.key.length d1, .slice B2 rc.val.length d2, .int .i64 rc.exp] 76)) u10 B1 rc.key ∧ OffV (w2.alloc (.cells #[.int .i64 (off : Int), .int .i64 (n : Int), .int .i64 rc.kind, .slice B1 rc.key.length d1, .slice B2 rc.val.length d2, .int .i64 rc.exp] 76)) u10 B2 rc.val) :=
                ⟨⟨⟨HSL.out.1, rfl⟩, ⟨HSL.out.2, rfl⟩, by have := hn3.1; show _ ≤ _; simp only; omega, by have := hn3.2; show _ ≤ _; simp only; omega⟩, (HAP.out.1.new HFB.out).offv HVB.out, (HAP.out.2.new HFB.out).offv HVB.out⟩
              have hln : 16 * (l ++ [(⟨(off : Int), (n : Int), ⟨rc.kind, rc.exp, B1, B2, rc.key.length, d1, rc.val.length, d2, rc.key, rc.val⟩⟩ : Fd)]).length ≤ off + n := by rw [List.length_append, List.length_singleton]; omega
              have hoff2 : off + n ≤ N + 59 := by omega
              have hw1 : IntKind.i64.wrap ((off : Int) + (n : Int)) = (off : Int) + (n : Int) := by rw [IntKind.wrap_i64]; omega
              obtain ⟨y0, y1, y2, y3⟩ := four_cells HQ.out
              clear hrow hwk HAP HSL HB hn3 HVB
              go_wp2_with (at_builtin; refine append_found rfl (.tmp 52) (.tmp 57) rfl u10 l rfl HR3.out w2.heap.size 1 ⟨(off : Int), (n : Int), ⟨rc.kind, rc.exp, B1, B2, rc.key.length, d1, rc.val.length, d2, rc.key, rc.val⟩⟩ rfl HX3.out hl0 HPP.out HB3.out.size ?_; intro v5 w5 hr5 hb5; have HR5 := Lib.hid hr5; have HB5 := Lib.hid (HB3.out.trans (hb5.mono (Nat.le_refl _))); clear hr5 hb5)
              go_roundw
              case rel => exact ⟨off + n, _, by go_num, hoff2, hln, HWK, HR5, HB5⟩
              case measure => simp [Go.RowKit.intOf]; omega
      · have hd1 : decide ((off : Int) < (N : Int)) = false := by simp only [decide_eq_false_iff_not]; omega
        have HE := Lib.hid (walked_end hwk.out (Sc.recs_end (by rw [HN.out]; omega)))
        clear hwk
        go_wp2_with fail
        go_ret
        exact ⟨_, l, rfl, hrow.out.mono HB4W.out.size, HE.out, HB4W.out.trans (hbel.out.mono HB4W.out.size)⟩
  · have HOK := Lib.hid (decide_eq_false hok)
    rw [HOK.out] at CI
    have HREG : Hid (Sc.region fs.seen ⟨a, b, c, d⟩ slot seq = []) := if_neg hok
    rw [HREG.out]
    clear hd ht hok HOK
    go_enter Tryz.func10, Tryz.ntmps10
    go_upto_region 1 with fail
    generalize w.alloc (.cells #[.int .i64 a, .int .i64 b, .int .i64 c, .int .i64 d] 29) = w0 at *
    obtain ⟨z0, z1, z2, z3⟩ := four_cells HS0.out.1
    go_wp2_with fail
    refine (CI.out _).mono ?_
    rintro r w1 ⟨rfl, hb1⟩
    have HS1 := Lib.hid (HS0.out.next hb1 (by rfl) (by rfl) (by rfl) (by rfl))
    clear hb1
    go_wp2_with fail
    go_ret
    exact ⟨_, [], rfl, FRow.nil, rfl, HS1.out.2⟩
end Go.Proofs.YtgnbmmceffolmaaGreatDoor
end
section
set_option maxRecDepth 100000
namespace Go.Proofs.YtgnbmmceffolmaaGreatDoor
open Go.RowKit
def CellsAt (W : World) (a : Addr) (f : Fd) : Prop := W.cell? a = some (.int .i64 f.off) ∧ W.cell? ⟨a.block, a.off + 1, none⟩ = some (.int .i64 f.len) ∧ W.cell? ⟨a.block, a.off + 2, none⟩ = some (.int .i64 f.rd.kd) ∧ W.cell? ⟨a.block, a.off + 3, none⟩ = some (.slice f.rd.A1 f.rd.n1 f.rd.c1) ∧ W.cell? ⟨a.block, a.off + 4, none⟩ = some (.slice f.rd.A2 f.rd.n2 f.rd.c2) ∧ W.cell? ⟨a.block, a.off + 5, none⟩ = some (.int .i64 f.rd.x)
/-- The ways of two found records: the first thing in which they differ. -/
theorem eq_ways (f f' : Fd) : ((f.off != f'.off) = true ∧ f.says ≠ f'.says) ∨ ((f.off != f'.off) = false ∧ (f.len != f'.len) = true ∧ f.says ≠ f'.says) ∨ ((f.off != f'.off) = false ∧ (f.len != f'.len) = false ∧ Rc.same f.rd.r f'.rd.r = false ∧ f.says ≠ f'.says) ∨ ((f.off != f'.off) = false ∧ (f.len != f'.len) = false ∧ Rc.same f.rd.r f'.rd.r = true ∧ f.says = f'.says) := by
  unfold Fd.says
  by_cases h1 : f.off = f'.off
  · by_cases h2 : f.len = f'.len
    · by_cases h3 : f.rd.r = f'.rd.r
      · exact .inr (.inr (.inr ⟨by simp [h1], by simp [h2], (Rc.same_iff _ _).2 h3, by rw [h1, h2, h3]⟩))
      · refine .inr (.inr (.inl ⟨by simp [h1], by simp [h2], ?_, fun e => h3 (by injection e with _ e; injection e)⟩))
        cases hs : Rc.same f.rd.r f'.rd.r with
        | false => rfl
        | true => exact absurd ((Rc.same_iff _ _).1 hs) h3
    · exact .inr (.inl ⟨by simp [h1], by simp [h2], fun e => h2 (by injection e with _ e; injection e)⟩)
  · exact .inl ⟨by simp [h1], fun e => h1 (by injection e)⟩
theorem says_at {l : List Fd} {k : Nat} (hk : k < l.length) : (l.map Fd.says)[k]? = some (l.getD k Fd0).says := by
  rw [List.getElem?_map, List.getElem?_eq_getElem hk, List.getD_eq_getElem?_getD, List.getElem?_eq_getElem hk]; rfl
theorem says_ne {l l' : List Fd} {k : Nat} {f f' : Fd} (hk : k < l.length) (hk' : k < l'.length) (h : l.getD k Fd0 = f) (h' : l'.getD k Fd0 = f') (hne : f.says ≠ f'.says) : decide (l.map Fd.says = l'.map Fd.says) = false := decide_eq_false fun e => by
  have h1 := says_at hk
  rw [e, says_at hk', h, h'] at h1
  injection h1 with h1
  exact hne h1.symm
set_option maxHeartbeats 4000000 in
theorem refeqfd_any (A A' : Option Addr) (B B' n n' c c' : Nat) (l l' : List Fd) (w : World) (hB : B ≤ w.heap.size) (hB' : B' ≤ w.heap.size) (hl : Hid (l.length = n)) (hl' : Hid (l'.length = n')) (hn : n ≤ 140737488355328) (hb : Hid (FdsAt w B A l)) (hb' : Hid (FdsAt w B' A' l')) :
    Calls Tryz.prog 9 #[.slice A n c, .slice A' n' c'] w fun e w' => e = .returned (.bool (decide (l.map Fd.says = l'.map Fd.says))) ∧ Below w.heap.size w w' := by
  by_cases he : n = n'
  · subst he
    have f0 : ((n : Int) != (n : Int)) = false := by simp
    go_enter Tryz.func9, Tryz.ntmps9
    go_wp2_with fail
    go_loopw [13] (fun iv wr => ∃ k : Nat, k ≤ n ∧ iv = .int .i64 (k : Int) ∧ Hid (∀ j, j < k → (l.getD j Fd0).says = (l'.getD j Fd0).says) ∧ Hid (Below w.heap.size w wr)) (fun iv _ => n - (Go.RowKit.intOf iv).toNat)
    case atStart => exact ⟨0, Nat.zero_le _, rfl, fun j h => absurd h (Nat.not_lt_zero _), Below.refl _ _⟩
    case round =>
      obtain ⟨k, hk, rfl, hsame, hbel⟩ := hrel
      by_cases hlt : k < n
      · have hd1 : decide ((k : Int) < (n : Int)) = true := by simp only [decide_eq_true_eq]; omega
        have hkl : k < l.length := by rw [hl.out]; exact hlt
        have hkl' : k < l'.length := by rw [hl'.out]; exact hlt
        obtain ⟨ad, rfl⟩ := hb.out.1.some hkl
        obtain ⟨ad', rfl⟩ := hb'.out.1.some hkl'
        obtain ⟨f, hf⟩ : ∃ f, l.getD k Fd0 = f := ⟨_, rfl⟩
        obtain ⟨f', hf'⟩ : ∃ f', l'.getD k Fd0 = f' := ⟨_, rfl⟩
        have hm : f.rd.here w B ∧ f.small := by rw [← hf]; exact hb.out.2 _ (mem_getD Fd0 hkl)
        have hm' : f'.rd.here w B' ∧ f'.small := by rw [← hf']; exact hb'.out.2 _ (mem_getD Fd0 hkl')
        have HC6 : Hid (∀ W, Below w.heap.size w W → CellsAt W (ad.add (k * 6)) f ∧ CellsAt W (ad'.add (k * 6)) f') := fun W hW =>
          ⟨fds_at (hb.out.below hW hB).1 k hkl f hf, fds_at (hb'.out.below hW hB').1 k hkl' f' hf'⟩
        have HEQ : Hid (∀ W, Below w.heap.size w W → Calls Tryz.prog 31 #[.agg #[.int .i64 f.rd.kd, .slice f.rd.A1 f.rd.n1 f.rd.c1, .slice f.rd.A2 f.rd.n2 f.rd.c2, .int .i64 f.rd.x], .agg #[.int .i64 f'.rd.kd, .slice f'.rd.A1 f'.rd.n1 f'.rd.c1, .slice f'.rd.A2 f'.rd.n2 f'.rd.c2, .int .i64 f'.rd.x]] W fun e w' => e = .returned (.bool (Rc.same f.rd.r f'.rd.r)) ∧ Below W.heap.size W w') := fun W hW =>
          receq_any _ _ _ _ _ _ _ _ B B' _ _ _ _ _ _ _ _ f.rd.key f.rd.val f'.rd.key f'.rd.val W (Nat.le_trans hB hW.size) (Nat.le_trans hB' hW.size) ⟨hm.1.1.2.1, hm.1.1.2.2.below hW hB⟩ ⟨hm.1.2.2.1, hm.1.2.2.2.below hW hB⟩ ⟨hm'.1.1.2.1, hm'.1.1.2.2.below hW hB'⟩ ⟨hm'.1.2.2.1, hm'.1.2.2.2.below hW hB'⟩ ⟨hm.2.1, hm.2.2, hm'.2.1, hm'.2.2⟩
        have HNE : Hid (f.says ≠ f'.says → decide (l.map Fd.says = l'.map Fd.says) = false) := says_ne hkl hkl' hf hf'
        have HYE : Hid (f.says = f'.says → ∀ j, j < k + 1 → (l.getD j Fd0).says = (l'.getD j Fd0).says) := fun e j hj => by
          rcases Nat.lt_or_ge j k with h | h
          · exact hsame.out j h
          · obtain rfl : j = k := by omega
            rw [hf, hf']; exact e
        have HW := Lib.hid (eq_ways f f')
        clear hm hm' hf hf' hkl hkl' hsame
        generalize Rc.same f.rd.r f'.rd.r = sm at *
        rcases HW.out with ⟨g0, hs⟩ | ⟨g0, g1, hs⟩ | ⟨g0, g1, rfl, hs⟩ | ⟨g0, g1, rfl, hs⟩
        all_goals
          clear HW
          have HS := Lib.hid hs
          clear hs
          go_wp2_with fail
          have HBa : Hid (Below w.heap.size w wr.drew) := hbel.out.trans ((below_drewN wr 1).mono hbel.out.size)
          refine wp_region_held_drew (S := fun W => CellsAt W (ad.add (k * 6)) f ∧ CellsAt W (ad'.add (k * 6)) f') (by kernel_rfl) (HC6.out _ HBa.out) (fun hH => ?_)
          change wpAnyH _ _ _ _ _ 38 #[false, false, false, false, false, false, false, false, false, false, false, false, false, false, false, false, false, false, false, false, false, false, false, false, false, false, false, false, false, false, false, false, false, false, false, false, false, false] _ _
          generalize wr.drew = wa at *
          refine held_take (i := 0) (v := ?_) (d := some 16) rfl rfl (by kernel_rfl) (by kernel_rfl) (by kernel_rfl) (fun _ _ _ h => h) hH ⟨?_, fun w hSw => ?_⟩ ?_
          rotate_left 1
          · rfl
          · (go_simp; all_goals with_reducible rfl)
          simp only [Act.put, List.setIfInBounds_toArray, List.set_cons_zero, List.set_cons_succ]
          refine held_take (i := 1) (v := ?_) (d := some 17) rfl rfl (by kernel_rfl) (by kernel_rfl) (by kernel_rfl) (fun _ _ _ h => h) hH ⟨?_, fun w hSw => ?_⟩ ?_
          rotate_left 1
          · rfl
          · (go_simp; all_goals with_reducible rfl)
          simp only [Act.put, List.setIfInBounds_toArray, List.set_cons_zero, List.set_cons_succ]
          refine held_take (i := 2) (v := ?_) (d := some 18) rfl rfl (by kernel_rfl) (by kernel_rfl) (by kernel_rfl) (fun _ _ _ h => h) hH ⟨?_, fun w hSw => ?_⟩ ?_
          rotate_left 1
          · rfl
          · obtain ⟨⟨x0, x1, x2, x3, x4, x5⟩, ⟨y0, y1, y2, y3, y4, y5⟩⟩ := hSw
            (go_simp; all_goals with_reducible rfl)
          simp only [Act.put, List.setIfInBounds_toArray, List.set_cons_zero, List.set_cons_succ]
          refine held_take (i := 3) (v := ?_) (d := some 19) rfl rfl (by kernel_rfl) (by kernel_rfl) (by kernel_rfl) (fun _ _ _ h => h) hH ⟨?_, fun w hSw => ?_⟩ ?_
          rotate_left 1
          · rfl
          · (go_simp; all_goals with_reducible rfl)
          simp only [Act.put, List.setIfInBounds_toArray, List.set_cons_zero, List.set_cons_succ]
          refine held_take (i := 4) (v := ?_) (d := some 20) rfl rfl (by kernel_rfl) (by kernel_rfl) (by kernel_rfl) (fun _ _ _ h => h) hH ⟨?_, fun w hSw => ?_⟩ ?_
          rotate_left 1
          · rfl
          · obtain ⟨⟨x0, x1, x2, x3, x4, x5⟩, ⟨y0, y1, y2, y3, y4, y5⟩⟩ := hSw
            (go_simp; all_goals with_reducible rfl)
          simp only [Act.put, List.setIfInBounds_toArray, List.set_cons_zero, List.set_cons_succ]
          refine held_take (i := 5) (v := ?_) (d := some 21) rfl rfl (by kernel_rfl) (by kernel_rfl) (by kernel_rfl) (fun _ _ _ h => h) hH ⟨?_, fun w hSw => ?_⟩ ?_
          rotate_left 1
          · rfl
          · (go_simp; all_goals with_reducible rfl)
          simp only [Act.put, List.setIfInBounds_toArray, List.set_cons_zero, List.set_cons_succ]
          refine held_take (i := 6) (v := ?_) (d := some 22) rfl rfl (by kernel_rfl) (by kernel_rfl) (by kernel_rfl) (fun _ _ _ h => h) hH ⟨?_, fun w hSw => ?_⟩ ?_
          rotate_left 1
          · rfl
          · (go_simp; all_goals with_reducible rfl)
          simp only [Act.put, List.setIfInBounds_toArray, List.set_cons_zero, List.set_cons_succ]
          refine held_take (i := 7) (v := ?_) (d := some 23) rfl rfl (by kernel_rfl) (by kernel_rfl) (by kernel_rfl) (fun _ _ _ h => h) hH ⟨?_, fun w hSw => ?_⟩ ?_
          rotate_left 1
          · rfl
          · obtain ⟨⟨x0, x1, x2, x3, x4, x5⟩, ⟨y0, y1, y2, y3, y4, y5⟩⟩ := hSw
            (go_simp; all_goals with_reducible rfl)
          simp only [Act.put, List.setIfInBounds_toArray, List.set_cons_zero, List.set_cons_succ]
          refine held_take (i := 8) (v := ?_) (d := some 24) rfl rfl (by kernel_rfl) (by kernel_rfl) (by kernel_rfl) (fun _ _ _ h => h) hH ⟨?_, fun w hSw => ?_⟩ ?_
          rotate_left 1
          · rfl
          · (go_simp; all_goals with_reducible rfl)
          simp only [Act.put, List.setIfInBounds_toArray, List.set_cons_zero, List.set_cons_succ]
          refine held_take (i := 9) (v := ?_) (d := some 25) rfl rfl (by kernel_rfl) (by kernel_rfl) (by kernel_rfl) (fun _ _ _ h => h) hH ⟨?_, fun w hSw => ?_⟩ ?_
          rotate_left 1
          · rfl
          · obtain ⟨⟨x0, x1, x2, x3, x4, x5⟩, ⟨y0, y1, y2, y3, y4, y5⟩⟩ := hSw
            (go_simp; all_goals with_reducible rfl)
          simp only [Act.put, List.setIfInBounds_toArray, List.set_cons_zero, List.set_cons_succ]
          refine held_take (i := 10) (v := ?_) (d := some 26) rfl rfl (by kernel_rfl) (by kernel_rfl) (by kernel_rfl) (fun _ _ _ h => h) hH ⟨?_, fun w hSw => ?_⟩ ?_
          rotate_left 1
          · rfl
          · (go_simp; all_goals with_reducible rfl)
          simp only [Act.put, List.setIfInBounds_toArray, List.set_cons_zero, List.set_cons_succ]
          refine held_take (i := 11) (v := ?_) (d := some 27) rfl rfl (by kernel_rfl) (by kernel_rfl) (by kernel_rfl) (fun _ _ _ h => h) hH ⟨?_, fun w hSw => ?_⟩ ?_
          rotate_left 1
          · rfl
          · (go_simp; all_goals with_reducible rfl)
          simp only [Act.put, List.setIfInBounds_toArray, List.set_cons_zero, List.set_cons_succ]
          first
            | refine held_skip (i := 12) (d := some 28) rfl rfl (by kernel_rfl) (by kernel_rfl) (by kernel_rfl) (fun _ _ _ h => h) hH ?_ ?_
              · rfl
              simp only [Act.put, List.setIfInBounds_toArray, List.set_cons_zero, List.set_cons_succ]
            | refine held_take (i := 12) (v := ?_) (d := some 28) rfl rfl (by kernel_rfl) (by kernel_rfl) (by kernel_rfl) (fun _ _ _ h => h) hH ⟨?_, fun w hSw => ?_⟩ ?_
              rotate_left 1
              · rfl
              · (go_simp; all_goals with_reducible rfl)
              simp only [Act.put, List.setIfInBounds_toArray, List.set_cons_zero, List.set_cons_succ]
          first
            | refine held_skip (i := 13) (d := some 29) rfl rfl (by kernel_rfl) (by kernel_rfl) (by kernel_rfl) (fun _ _ _ h => h) hH ?_ ?_
              · rfl
              simp only [Act.put, List.setIfInBounds_toArray, List.set_cons_zero, List.set_cons_succ]
            | refine held_take (i := 13) (v := ?_) (d := some 29) rfl rfl (by kernel_rfl) (by kernel_rfl) (by kernel_rfl) (fun _ _ _ h => h) hH ⟨?_, fun w hSw => ?_⟩ ?_
              rotate_left 1
              · rfl
              · (go_simp; all_goals with_reducible rfl)
              simp only [Act.put, List.setIfInBounds_toArray, List.set_cons_zero, List.set_cons_succ]
          first
            | refine held_skip (i := 14) (d := some 30) rfl rfl (by kernel_rfl) (by kernel_rfl) (by kernel_rfl) (fun _ _ _ h => h) hH ?_ ?_
              · rfl
              simp only [Act.put, List.setIfInBounds_toArray, List.set_cons_zero, List.set_cons_succ]
            | refine held_take (i := 14) (v := ?_) (d := some 30) rfl rfl (by kernel_rfl) (by kernel_rfl) (by kernel_rfl) (fun _ _ _ h => h) hH ⟨?_, fun w hSw => ?_⟩ ?_
              rotate_left 1
              · rfl
              · obtain ⟨⟨x0, x1, x2, x3, x4, x5⟩, ⟨y0, y1, y2, y3, y4, y5⟩⟩ := hSw
                (go_simp; all_goals with_reducible rfl)
              simp only [Act.put, List.setIfInBounds_toArray, List.set_cons_zero, List.set_cons_succ]
          first
            | refine held_skip (i := 15) (d := some 31) rfl rfl (by kernel_rfl) (by kernel_rfl) (by kernel_rfl) (fun _ _ _ h => h) hH ?_ ?_
              · rfl
              simp only [Act.put, List.setIfInBounds_toArray, List.set_cons_zero, List.set_cons_succ]
            | refine held_take (i := 15) (v := ?_) (d := some 31) rfl rfl (by kernel_rfl) (by kernel_rfl) (by kernel_rfl) (fun _ _ _ h => h) hH ⟨?_, fun w hSw => ?_⟩ ?_
              rotate_left 1
              · rfl
              · (go_simp; all_goals with_reducible rfl)
              simp only [Act.put, List.setIfInBounds_toArray, List.set_cons_zero, List.set_cons_succ]
          first
            | refine held_skip (i := 16) (d := some 32) rfl rfl (by kernel_rfl) (by kernel_rfl) (by kernel_rfl) (fun _ _ _ h => h) hH ?_ ?_
              · rfl
              simp only [Act.put, List.setIfInBounds_toArray, List.set_cons_zero, List.set_cons_succ]
            | refine held_take (i := 16) (v := ?_) (d := some 32) rfl rfl (by kernel_rfl) (by kernel_rfl) (by kernel_rfl) (fun _ _ _ h => h) hH ⟨?_, fun w hSw => ?_⟩ ?_
              rotate_left 1
              · rfl
              · obtain ⟨⟨x0, x1, x2, x3, x4, x5⟩, ⟨y0, y1, y2, y3, y4, y5⟩⟩ := hSw
                (go_simp; all_goals with_reducible rfl)
              simp only [Act.put, List.setIfInBounds_toArray, List.set_cons_zero, List.set_cons_succ]
          first
            | refine held_skip (i := 17) (d := some 33) rfl rfl (by kernel_rfl) (by kernel_rfl) (by kernel_rfl) (fun _ _ _ h => h) hH ?_ ?_
              · rfl
              simp only [Act.put, List.setIfInBounds_toArray, List.set_cons_zero, List.set_cons_succ]
            | refine held_take (i := 17) (v := ?_) (d := some 33) rfl rfl (by kernel_rfl) (by kernel_rfl) (by kernel_rfl) (fun _ _ _ h => h) hH ⟨?_, fun w hSw => ?_⟩ ?_
              rotate_left 1
              · rfl
              · (go_simp; all_goals with_reducible rfl)
              simp only [Act.put, List.setIfInBounds_toArray, List.set_cons_zero, List.set_cons_succ]
          first
            | refine held_skip (i := 18) (d := some 34) rfl rfl (by kernel_rfl) (by kernel_rfl) (by kernel_rfl) (fun _ _ _ h => h) hH ?_ ?_
              · rfl
              simp only [Act.put, List.setIfInBounds_toArray, List.set_cons_zero, List.set_cons_succ]
            | refine held_take (i := 18) (v := ?_) (d := some 34) rfl rfl (by kernel_rfl) (by kernel_rfl) (by kernel_rfl) (fun _ _ _ h => h) hH ⟨?_, fun w hSw => ?_⟩ ?_
              rotate_left 1
              · rfl
              · (go_simp; all_goals with_reducible rfl)
              simp only [Act.put, List.setIfInBounds_toArray, List.set_cons_zero, List.set_cons_succ]
          first
            | refine held_skip (i := 19) (d := some 35) rfl rfl (by kernel_rfl) (by kernel_rfl) (by kernel_rfl) (fun _ _ _ h => h) hH ?_ ?_
              · rfl
              simp only [Act.put, List.setIfInBounds_toArray, List.set_cons_zero, List.set_cons_succ]
            | refine held_take (i := 19) (v := ?_) (d := some 35) rfl rfl (by kernel_rfl) (by kernel_rfl) (by kernel_rfl) (fun _ _ _ h => h) hH ⟨?_, fun w hSw => ?_⟩ ?_
              rotate_left 1
              · rfl
              · obtain ⟨⟨x0, x1, x2, x3, x4, x5⟩, ⟨y0, y1, y2, y3, y4, y5⟩⟩ := hSw
                (go_simp; all_goals with_reducible rfl)
              simp only [Act.put, List.setIfInBounds_toArray, List.set_cons_zero, List.set_cons_succ]
          first
            | refine held_skip (i := 20) (d := some 36) rfl rfl (by kernel_rfl) (by kernel_rfl) (by kernel_rfl) (fun _ _ _ h => h) hH ?_ ?_
              · rfl
              simp only [Act.put, List.setIfInBounds_toArray, List.set_cons_zero, List.set_cons_succ]
            | refine held_take (i := 20) (v := ?_) (d := some 36) rfl rfl (by kernel_rfl) (by kernel_rfl) (by kernel_rfl) (fun _ _ _ h => h) hH ⟨?_, fun w hSw => ?_⟩ ?_
              rotate_left 1
              · rfl
              · (go_simp; all_goals with_reducible rfl)
              simp only [Act.put, List.setIfInBounds_toArray, List.set_cons_zero, List.set_cons_succ]
          first
            | refine held_skip (i := 21) (d := some 37) rfl rfl (by kernel_rfl) (by kernel_rfl) (by kernel_rfl) (fun _ _ _ h => h) hH ?_ ?_
              · rfl
              simp only [Act.put, List.setIfInBounds_toArray, List.set_cons_zero, List.set_cons_succ]
            | refine held_take (i := 21) (v := ?_) (d := some 37) rfl rfl (by kernel_rfl) (by kernel_rfl) (by kernel_rfl) (fun _ _ _ h => h) hH ⟨?_, fun w hSw => ?_⟩ ?_
              rotate_left 1
              · rfl
              · obtain ⟨⟨x0, x1, x2, x3, x4, x5⟩, ⟨y0, y1, y2, y3, y4, y5⟩⟩ := hSw
                (go_simp; all_goals with_reducible rfl)
              simp only [Act.put, List.setIfInBounds_toArray, List.set_cons_zero, List.set_cons_succ]
          first
            | refine held_skip (i := 22) (d := some 38) rfl rfl (by kernel_rfl) (by kernel_rfl) (by kernel_rfl) (fun _ _ _ h => h) hH ?_ ?_
              · rfl
              simp only [Act.put, List.setIfInBounds_toArray, List.set_cons_zero, List.set_cons_succ]
            | refine held_take (i := 22) (v := ?_) (d := some 38) rfl rfl (by kernel_rfl) (by kernel_rfl) (by kernel_rfl) (fun _ _ _ h => h) hH ⟨?_, fun w hSw => ?_⟩ ?_
              rotate_left 1
              · rfl
              · (go_simp; all_goals with_reducible rfl)
              simp only [Act.put, List.setIfInBounds_toArray, List.set_cons_zero, List.set_cons_succ]
          refine held_take (i := 23) (v := ?_) (d := some 39) rfl rfl (by kernel_rfl) (by kernel_rfl) (by kernel_rfl) (fun _ _ _ h => h) hH ⟨?_, fun w hSw => ?_⟩ ?_
          rotate_left 1
          · rfl
          · (go_simp; all_goals with_reducible rfl)
          simp only [Act.put, List.setIfInBounds_toArray, List.set_cons_zero, List.set_cons_succ]
          refine held_take (i := 24) (v := ?_) (d := some 40) rfl rfl (by kernel_rfl) (by kernel_rfl) (by kernel_rfl) (fun _ _ _ h => h) hH ⟨?_, fun w hSw => ?_⟩ ?_
          rotate_left 1
          · rfl
          · (go_simp; all_goals with_reducible rfl)
          simp only [Act.put, List.setIfInBounds_toArray, List.set_cons_zero, List.set_cons_succ]
          first
            | refine held_skip (i := 25) (d := some 41) rfl rfl (by kernel_rfl) (by kernel_rfl) (by kernel_rfl) (fun _ _ _ h => h) hH ?_ ?_
              · rfl
              simp only [Act.put, List.setIfInBounds_toArray, List.set_cons_zero, List.set_cons_succ]
            | refine held_take (i := 25) (v := ?_) (d := some 41) rfl rfl (by kernel_rfl) (by kernel_rfl) (by kernel_rfl) (fun _ _ _ h => h) hH ⟨?_, fun w hSw => ?_⟩ ?_
              rotate_left 1
              · rfl
              · (go_simp; all_goals with_reducible rfl)
              simp only [Act.put, List.setIfInBounds_toArray, List.set_cons_zero, List.set_cons_succ]
          first
            | refine held_skip (i := 26) (d := some 42) rfl rfl (by kernel_rfl) (by kernel_rfl) (by kernel_rfl) (fun _ _ _ h => h) hH ?_ ?_
              · rfl
              simp only [Act.put, List.setIfInBounds_toArray, List.set_cons_zero, List.set_cons_succ]
            | refine held_take (i := 26) (v := ?_) (d := some 42) rfl rfl (by kernel_rfl) (by kernel_rfl) (by kernel_rfl) (fun _ _ _ h => h) hH ⟨?_, fun w hSw => ?_⟩ ?_
              rotate_left 1
              · rfl
              · (go_simp; all_goals with_reducible rfl)
              simp only [Act.put, List.setIfInBounds_toArray, List.set_cons_zero, List.set_cons_succ]
          first
            | refine held_skip (i := 27) (d := some 43) rfl rfl (by kernel_rfl) (by kernel_rfl) (by kernel_rfl) (fun _ _ _ h => h) hH ?_ ?_
              · rfl
              simp only [Act.put, List.setIfInBounds_toArray, List.set_cons_zero, List.set_cons_succ]
            | refine held_take (i := 27) (v := ?_) (d := some 43) rfl rfl (by kernel_rfl) (by kernel_rfl) (by kernel_rfl) (fun _ _ _ h => h) hH ⟨?_, fun w hSw => ?_⟩ ?_
              rotate_left 1
              · rfl
              · obtain ⟨⟨x0, x1, x2, x3, x4, x5⟩, ⟨y0, y1, y2, y3, y4, y5⟩⟩ := hSw
                (go_simp; all_goals with_reducible rfl)
              simp only [Act.put, List.setIfInBounds_toArray, List.set_cons_zero, List.set_cons_succ]
          first
            | refine held_skip (i := 28) (d := some 44) rfl rfl (by kernel_rfl) (by kernel_rfl) (by kernel_rfl) (fun _ _ _ h => h) hH ?_ ?_
              · rfl
              simp only [Act.put, List.setIfInBounds_toArray, List.set_cons_zero, List.set_cons_succ]
            | refine held_take (i := 28) (v := ?_) (d := some 44) rfl rfl (by kernel_rfl) (by kernel_rfl) (by kernel_rfl) (fun _ _ _ h => h) hH ⟨?_, fun w hSw => ?_⟩ ?_
              rotate_left 1
              · rfl
              · (go_simp; all_goals with_reducible rfl)
              simp only [Act.put, List.setIfInBounds_toArray, List.set_cons_zero, List.set_cons_succ]
          first
            | refine held_skip (i := 29) (d := some 45) rfl rfl (by kernel_rfl) (by kernel_rfl) (by kernel_rfl) (fun _ _ _ h => h) hH ?_ ?_
              · rfl
              simp only [Act.put, List.setIfInBounds_toArray, List.set_cons_zero, List.set_cons_succ]
            | refine held_take (i := 29) (v := ?_) (d := some 45) rfl rfl (by kernel_rfl) (by kernel_rfl) (by kernel_rfl) (fun _ _ _ h => h) hH ⟨?_, fun w hSw => ?_⟩ ?_
              rotate_left 1
              · rfl
              · obtain ⟨⟨x0, x1, x2, x3, x4, x5⟩, ⟨y0, y1, y2, y3, y4, y5⟩⟩ := hSw
                (go_simp; all_goals with_reducible rfl)
              simp only [Act.put, List.setIfInBounds_toArray, List.set_cons_zero, List.set_cons_succ]
          first
            | refine held_skip (i := 30) (d := some 46) rfl rfl (by kernel_rfl) (by kernel_rfl) (by kernel_rfl) (fun _ _ _ h => h) hH ?_ ?_
              · rfl
              simp only [Act.put, List.setIfInBounds_toArray, List.set_cons_zero, List.set_cons_succ]
            | refine held_take (i := 30) (v := ?_) (d := some 46) rfl rfl (by kernel_rfl) (by kernel_rfl) (by kernel_rfl) (fun _ _ _ h => h) hH ⟨?_, fun w hSw => ?_⟩ ?_
              rotate_left 1
              · rfl
              · (go_simp; all_goals with_reducible rfl)
              simp only [Act.put, List.setIfInBounds_toArray, List.set_cons_zero, List.set_cons_succ]
          first
            | refine held_skip (i := 31) (d := some 47) rfl rfl (by kernel_rfl) (by kernel_rfl) (by kernel_rfl) (fun _ _ _ h => h) hH ?_ ?_
              · rfl
              simp only [Act.put, List.setIfInBounds_toArray, List.set_cons_zero, List.set_cons_succ]
            | refine held_take (i := 31) (v := ?_) (d := some 47) rfl rfl (by kernel_rfl) (by kernel_rfl) (by kernel_rfl) (fun _ _ _ h => h) hH ⟨?_, fun w hSw => ?_⟩ ?_
              rotate_left 1
              · rfl
              · (go_simp; all_goals with_reducible rfl)
              simp only [Act.put, List.setIfInBounds_toArray, List.set_cons_zero, List.set_cons_succ]
          first
            | refine held_skip (i := 32) (d := some 48) rfl rfl (by kernel_rfl) (by kernel_rfl) (by kernel_rfl) (fun _ _ _ h => h) hH ?_ ?_
              · rfl
              simp only [Act.put, List.setIfInBounds_toArray, List.set_cons_zero, List.set_cons_succ]
            | refine held_take (i := 32) (v := ?_) (d := some 48) rfl rfl (by kernel_rfl) (by kernel_rfl) (by kernel_rfl) (fun _ _ _ h => h) hH ⟨?_, fun w hSw => ?_⟩ ?_
              rotate_left 1
              · rfl
              · obtain ⟨⟨x0, x1, x2, x3, x4, x5⟩, ⟨y0, y1, y2, y3, y4, y5⟩⟩ := hSw
                (go_simp; all_goals with_reducible rfl)
              simp only [Act.put, List.setIfInBounds_toArray, List.set_cons_zero, List.set_cons_succ]
          first
            | refine held_skip (i := 33) (d := some 49) rfl rfl (by kernel_rfl) (by kernel_rfl) (by kernel_rfl) (fun _ _ _ h => h) hH ?_ ?_
              · rfl
              simp only [Act.put, List.setIfInBounds_toArray, List.set_cons_zero, List.set_cons_succ]
            | refine held_take (i := 33) (v := ?_) (d := some 49) rfl rfl (by kernel_rfl) (by kernel_rfl) (by kernel_rfl) (fun _ _ _ h => h) hH ⟨?_, fun w hSw => ?_⟩ ?_
              rotate_left 1
              · rfl
              · (go_simp; all_goals with_reducible rfl)
              simp only [Act.put, List.setIfInBounds_toArray, List.set_cons_zero, List.set_cons_succ]
          first
            | refine held_skip (i := 34) (d := some 50) rfl rfl (by kernel_rfl) (by kernel_rfl) (by kernel_rfl) (fun _ _ _ h => h) hH ?_ ?_
              · rfl
              simp only [Act.put, List.setIfInBounds_toArray, List.set_cons_zero, List.set_cons_succ]
            | refine held_take (i := 34) (v := ?_) (d := some 50) rfl rfl (by kernel_rfl) (by kernel_rfl) (by kernel_rfl) (fun _ _ _ h => h) hH ⟨?_, fun w hSw => ?_⟩ ?_
              rotate_left 1
              · rfl
              · obtain ⟨⟨x0, x1, x2, x3, x4, x5⟩, ⟨y0, y1, y2, y3, y4, y5⟩⟩ := hSw
                (go_simp; all_goals with_reducible rfl)
              simp only [Act.put, List.setIfInBounds_toArray, List.set_cons_zero, List.set_cons_succ]
          first
            | refine held_skip (i := 35) (d := some 51) rfl rfl (by kernel_rfl) (by kernel_rfl) (by kernel_rfl) (fun _ _ _ h => h) hH ?_ ?_
              · rfl
              simp only [Act.put, List.setIfInBounds_toArray, List.set_cons_zero, List.set_cons_succ]
            | refine held_step (i := 35) rfl (by kernel_rfl) ?_ (fun K hK => ?_)
              · rfl
              clear hH
              go_simp
              refine (HEQ.out _ HBa.out).mono ?_
              rintro e w3 ⟨rfl, hb3⟩
              have HB3 := Lib.hid (HBa.out.trans (hb3.mono HBa.out.size))
              clear hb3
              have hH := HC6.out _ HB3.out
              refine hK _ _ hH ?_
              clear hK K
              simp only [List.setIfInBounds_toArray, List.set_cons_zero, List.set_cons_succ]
          first
            | refine held_skip (i := 36) (d := some 52) rfl rfl (by kernel_rfl) (by kernel_rfl) (by kernel_rfl) (fun _ _ _ h => h) hH ?_ ?_
              · rfl
              simp only [Act.put, List.setIfInBounds_toArray, List.set_cons_zero, List.set_cons_succ]
            | refine held_take (i := 36) (v := ?_) (d := some 52) rfl rfl (by kernel_rfl) (by kernel_rfl) (by kernel_rfl) (fun _ _ _ h => h) hH ⟨?_, fun w hSw => ?_⟩ ?_
              rotate_left 1
              · rfl
              · (go_simp; all_goals with_reducible rfl)
              simp only [Act.put, List.setIfInBounds_toArray, List.set_cons_zero, List.set_cons_succ]
          refine held_take (i := 37) (v := ?_) (d := some 53) rfl rfl (by kernel_rfl) (by kernel_rfl) (by kernel_rfl) (fun _ _ _ h => h) hH ⟨?_, fun w hSw => ?_⟩ ?_
          rotate_left 1
          · rfl
          · (go_simp; all_goals with_reducible rfl)
          simp only [Act.put, List.setIfInBounds_toArray, List.set_cons_zero, List.set_cons_succ]
          refine wpAnyH_done (by kernel_rfl) ?_ _
          go_wp2_with fail
          first
            | (go_ret; exact ⟨ret_bool (HNE.out HS.out).symm, HB3.out⟩)
            | (go_ret; exact ⟨ret_bool (HNE.out HS.out).symm, HBa.out⟩)
            | (go_roundw
               case rel => exact ⟨k + 1, by omega, by go_num, HYE.out HS.out, HB3.out⟩
               case measure => simp [Go.RowKit.intOf]; omega)
      · obtain rfl : k = n := by omega
        have hd1 : decide ((k : Int) < (k : Int)) = false := by simp
        have HE : Hid (decide (l.map Fd.says = l'.map Fd.says) = true) := decide_eq_true (by
          refine List.ext_getElem? fun j => ?_
          rcases Nat.lt_or_ge j k with h | h
          · rw [says_at (by rw [hl.out]; exact h), says_at (by rw [hl'.out]; exact h), hsame.out j h]
          · rw [List.getElem?_eq_none (by rw [List.length_map, hl.out]; exact h), List.getElem?_eq_none (by rw [List.length_map, hl'.out]; exact h)])
        go_wp2_with fail
        go_ret
        exact ⟨ret_bool HE.out.symm, hbel.out⟩
  · have f0 : ((n : Int) != (n' : Int)) = true := by rw [bne_iff_ne]; omega
    have HE : Hid (decide (l.map Fd.says = l'.map Fd.says) = false) := decide_eq_false fun e => he (by
      have := congrArg List.length e
      rwa [List.length_map, List.length_map, hl.out, hl'.out] at this)
    go_enter Tryz.func9, Tryz.ntmps9
    go_wp2_with fail
    go_ret
    exact ⟨ret_bool HE.out.symm, Below.refl _ _⟩
end Go.Proofs.YtgnbmmceffolmaaGreatDoor
end
