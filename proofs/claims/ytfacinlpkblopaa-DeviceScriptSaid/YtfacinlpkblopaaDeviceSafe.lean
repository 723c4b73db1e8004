/-
  The law on sectors that were not written, walked.
-/
import Derived.Test.YtfacinlpkblopaaDeviceKeep
namespace Go.Proofs.Ytfacinlpkblopaa
open Go.RowKit Go.Maps
/-- A row of bools in a block of its own. -/
def bvals (L : List Bool) : List Value := L.map fun x => .bool x
def BRow (w : World) (G : Nat) (L : List Bool) : Prop := w.heap[G]? = some (.cells (bvals L).toArray 4 (0, 0))
theorem BRow.cell {w : World} {G : Nat} {L : List Bool} (h : BRow w G L) {j : Nat} (hj : j < L.length) : w.cell? ⟨G, j, none⟩ = some (.bool (L.getD j false)) ∧ w.frozen? ⟨G, j, none⟩ = false := by
  refine ⟨?_, frozen_of_row w G j _ _ h⟩
  rw [cell_of_row w G j _ _ _ h, List.getElem?_toArray]
  unfold bvals
  rw [List.getElem?_map, List.getElem?_eq_getElem hj, List.getD_eq_getElem?_getD, List.getElem?_eq_getElem hj]; rfl
theorem BRow.set {w : World} {G : Nat} {L : List Bool} (h : BRow w G L) (j : Nat) (x : Bool) : BRow (w.setCell ⟨G, j, none⟩ (.bool x)) G (L.set j x) := by
  unfold BRow
  rw [heap_setCell_same w G j _ _ _ h]
  simp [bvals, List.map_set]
theorem info_bool : (Try.prog.info? 4).map (fun i => (i.zero, i.size, i.bytes)) = some (some (.bool false), 1, 1) := by kernel_rfl
theorem made_bvals (k : Nat) : (madeCells (Value.cells (.bool false)) (k * 1)).toList = bvals (List.replicate k false) := by
  simp only [madeCells, bvals, Value.cells, List.map_replicate]
  apply List.ext_getElem
  · simp
  · intro i h1 h2
    simp [Nat.mod_one]
theorem made_brow {w : World} {base g k cap : Nat} (h : w.ownsRow base 4 1 (.slice (some ⟨g, 0, none⟩) k k) k (madeCells (Value.cells (.bool false)) (k * 1)).toList) (hcap : cap = k) : BRow w g (List.replicate cap false) := by
  subst hcap
  rw [made_bvals] at h
  rcases h.2 with ⟨e, _⟩ | ⟨g', cap', cur, e, _, hgg, _, _, hsz, htk⟩
  · cases e
  · injection e with e1 e2 e3
    injection e1 with e1
    injection e1 with e1
    subst e1
    unfold BRow
    rw [hgg]
    have : cur.toList = bvals (List.replicate cap false) := by rw [← htk, List.take_of_length_le (by rw [Array.length_toList]; omega)]
    rw [← this]
theorem getD_setB {L : List Bool} {j k : Nat} {x : Bool} (hj : j < L.length) : (L.set j x).getD k false = if k = j then x else L.getD k false := by
  rw [List.getD_eq_getElem?_getD, List.getD_eq_getElem?_getD, List.getElem?_set]
  by_cases e : j = k
  · subst e; simp [hj]
  · rw [if_neg e, if_neg (fun h => e h.symm)]
/-- A byte behind a crash is the old one, or the new one of a sector that was written. -/
theorem crashByte_either (cur : List Nat) (old : Nat → Option (List Nat)) (keep : List Bool) (T : List (Int × Int)) (p : Nat) :
    crashByte cur old keep T p = crashByte cur old [] [] p ∨ ((old (p / 64)).isSome = true ∧ crashByte cur old keep T p = cur.getD p 0) := by
  rw [crashByte_nil]
  unfold crashByte
  cases h : old (p / 64) with
  | none => exact .inl rfl
  | some l =>
    dsimp only
    by_cases e : p % 64 < keptBy keep T (dirtyCount (p / 64) old)
    · rw [if_pos e]; exact .inr ⟨rfl, rfl⟩
    · rw [if_neg e]; exact .inl rfl
/-- What holds at the head of the second loop's rounds. -/
structure SafeAt (w wr : World) (g c m i : Nat) (s : Flash) (go : Nat) (lo : List Nat) (gt : Nat) (Tl : List Bool) : Prop where
  dev : Dev wr g c m 6 s
  plain : Plain s
  wr_ : s.wr ≤ 6 + i
  below : Below w.heap.size w wr
  olds : Bs wr wr.heap.size (some ⟨go, 0, none⟩) lo
  lo_ : lo = crashed 6 s.cur s.old [] []
  row : BRow wr gt Tl
  tl : Tl.length = 6
  marks : ∀ q, q < 6 → (s.old q).isSome = true → Tl.getD q false = true
  far : go ≠ g ∧ go ≠ c ∧ go ≠ m ∧ gt ≠ g ∧ gt ≠ c ∧ gt ≠ m ∧ go ≠ gt ∧ w.heap.size ≤ go ∧ w.heap.size ≤ gt
theorem wrote_old {s : Flash} {j : Nat} {b : List Nat} {q : Nat} (h : ((s.wrote j b).old q).isSome = true) : q = j ∨ (s.old q).isSome = true := by
  have h' : (if q = j then some ((s.old j).getD (sec s.cur j)) else s.old q).isSome = true := h
  by_cases e : q = j
  · exact .inl e
  · rw [if_neg e] at h'; exact .inr h'
set_option maxRecDepth 100000 in
set_option maxHeartbeats 2000000 in
theorem devicesafe_any (A : Option Addr) (n ca : Nat) (A1 : Option Addr) (n1 c1 : Nat) (l1 : List Bool) (A2 : Option Addr) (n2 c2 : Nat) (l2 : List (Int × Int)) (w : World)
    (hs0 : SlOk A n ca) (hb0 : Hid (OpsAt w w.heap.size A n)) (hs1 : SlOk A1 n1 c1) (hl1 : Hid (l1.length = n1)) (hb1 : Hid (Bls w w.heap.size A1 l1)) (hs2 : SlOk A2 n2 c2) (hl2 : Hid (l2.length = n2)) (hb2 : Hid (Trs w w.heap.size A2 l2)) :
    Calls Try.prog 4 #[.slice A n ca, .slice A1 n1 c1, .slice A2 n2 c2] w (LawDid w) := by
  obtain ⟨hA, hnc, hcm⟩ := hs0
  have HA := Lib.hid hA; clear hA
  have HS1 := Lib.hid hs1; clear hs1
  have HS2 := Lib.hid hs2; clear hs2
  obtain ⟨i0, hi0, hz0, hz1, hz2⟩ := info_parts info_bool
  have I0 := Lib.hid (And.intro hi0 (And.intro hz0 (And.intro hz1 hz2))); clear hi0 hz0 hz1 hz2
  have B0 : Hid (i0.bytes * 6 ≤ 281474976710656 ∧ 6 ≤ maxLen) := by rw [I0.out.2.2.2]; exact ⟨by omega, by unfold maxLen; omega⟩
  go_enter Try.func4, Try.ntmps4
  go_wp2_with fail
  refine (new_yes 6 _ rfl _ (by omega) (by omega)).mono ?_
  rintro e w1 ⟨g, c, m, rfl, hd, hg, hc, hm, hbl1⟩
  have HD := Lib.hid (And.intro hd hbl1); clear hd hbl1
  have HS : Hid (∀ k, devS g c m k → w.heap.size ≤ k) := fun k h => by rcases h with h | h | h <;> omega
  go_wp2_with fail
  go_loopw [8] (fun iv wr => ∃ (i : Nat) (s : Flash), i ≤ 6 ∧ iv = .int .i64 (i : Int) ∧ Hid (Dev wr g c m 6 s ∧ Plain s ∧ s.wr ≤ i ∧ Below w.heap.size w wr)) (fun iv _ => 6 - (RowKit.intOf iv).toNat)
  case atStart => exact ⟨0, _, Nat.zero_le _, rfl, HD.out.1, plain_fresh _, Nat.le_refl _, HD.out.2⟩
  case round =>
    clear HD
    obtain ⟨i, s, hi6, rfl, hR⟩ := hrel
    by_cases hlt : i < 6
    · have HW : Hid (Dev (wr.alloc (.cells #[.int .u8 (i : Int), .int .u8 7] 5)) g c m 6 s) := hR.out.1.next ((Below.refl _ wr).alloc (Nat.le_refl _) _)
      have HBs : Hid (Bs (wr.alloc (.cells #[.int .u8 (i : Int), .int .u8 7] 5)) (wr.heap.size + 1) (some ⟨wr.heap.size, 0, none⟩) [i, 7]) := bs_new wr _ [i, 7] (fun x hx => by
        rcases List.mem_cons.1 hx with h | h
        · omega
        · rw [List.mem_singleton.1 h]; decide) _ _ rfl
      have hpw := hR.out.2.1.write (n := 6) hlt (b := [i, 7]) (by simp)
      have cw := write_any (i : Int) _ _ 2 2 [i, 7] (by omega) rfl HBs HW (by have := hR.out.2.2.1; omega)
      rw [hpw.1, hpw.2] at cw
      clear hpw
      go_wp2_with (go_at_call 11; refine cw.mono ?_; rintro e w3 ⟨rfl, hd3, hk3⟩; have HD3 := Lib.hid (And.intro hd3 hk3); clear hd3 hk3 cw)
      have HR3 : Hid (Dev w3 g c m 6 (s.wrote i [i, 7]) ∧ Plain (s.wrote i [i, 7]) ∧ (s.wrote i [i, 7]).wr ≤ i + 1 ∧ Below w.heap.size w w3) := by
        have hb := hR.out.2.2.2.alloc hR.out.2.2.2.size (.cells #[.int .u8 (i : Int), .int .u8 7] 5)
        exact ⟨HD3.out.1, hR.out.2.1.wrote i _, by have := hR.out.2.2.1; show s.wr + 1 ≤ _; omega, hb.trans (HD3.out.2.below hb.size HS.out)⟩
      clear HD3 HW HBs hR
      go_roundw
      case rel => exact ⟨i + 1, _, by omega, by go_num, HR3⟩
      case measure => simp [RowKit.intOf]; omega
    · go_wp2_with fail
      have cb := barrier_any (Lib.hid hR.out.1)
      rw [hR.out.2.1.barrier.1, hR.out.2.1.barrier.2] at cb
      refine cb.mono ?_
      rintro e w3 ⟨rfl, hd3, hk3⟩
      have HD3 := Lib.hid (And.intro hd3 (hR.out.2.2.2.trans (hk3.below hR.out.2.2.2.size (fun k h => HS.out k (h.elim .inl (fun h => .inr (.inr h))))))); clear hd3 hk3 cb
      go_wp2_with fail
      refine (image_any (Lib.hid HD3.out.1)).mono ?_
      rintro e w4 ⟨g4, c4, rfl, hg4, hbs4, hlc4, hcm4, hb4, -⟩
      have HCL : Hid (({ s with old := fun _ => none } : Flash).cur.length = 384) := hR.out.1.cur_len
      rw [HCL.out] at hlc4 ⊢
      go_wp2_with (first
        | (at_make; refine wpList_make_full w4 rfl _ _ 28 rfl w4.heap.size 4 i0 (.bool false) 1 Try.underlying28 I0.out.1 I0.out.2.1 I0.out.2.2.1 .i64 .i64 _ _ 6 rfl rfl rfl rfl B0.out.1 B0.out.2 (Nat.le_refl _) ?_; intro w5 hown hg5))
      have HR5 : Hid (SafeAt w w5 g c m 0 { s with old := fun _ => none } g4 s.cur w4.heap.size (List.replicate 6 false)) := by
        have hb5 : Below w4.heap.size w4 w5 := (Below.refl _ w4).grown hg5 (Nat.le_refl _) (fun k e => by cases e)
        have hd4 := HD3.out.1.next hb4
        obtain ⟨q1, q2, q3⟩ := HD3.out.1.lt
        have hs1 := HD3.out.2.size
        have hs2 := hb4.size
        have h2 : w3.heap.size ≤ g4 := hg4
        have h3 : g4 < w4.heap.size := by
          have := World.block_lt_of_cell? _ _ (hbs4 0 (by rw [HCL.out]; omega)).2.choose_spec.2.2
          have e := (hbs4 0 (by rw [HCL.out]; omega)).2.choose_spec.1
          injection e with e
          rw [← e] at this
          exact this
        exact ⟨hd4.next hb5, ⟨hR.out.2.1.dead, hR.out.2.1.fused⟩, by have := hR.out.2.2.1; show s.wr ≤ _; omega, (HD3.out.2.trans (hb4.mono hs1)).trans (hb5.mono (by omega)), hbs4.next hb5,
          (crashed_none HCL.out _ _).symm, made_brow hown rfl, List.length_replicate, (fun q _ h => by cases h), by omega, by omega, by omega, by omega, by omega, by omega, by omega, by omega, by omega⟩
      clear hbs4 hb4 hown hg5 HD3 hR hg4
      generalize hgt : w4.heap.size = gt at HR5 ⊢
      clear hgt
      go_loopw [11] (fun iv wr2 => ∃ (i : Nat) (s' : Flash) (Tl : List Bool), i ≤ n ∧ i ≤ 6 ∧ iv = .int .i64 (i : Int) ∧ Hid (SafeAt w wr2 g c m i s' g4 s.cur gt Tl)) (fun iv _ => 6 - (RowKit.intOf iv).toNat)
      case atStart => exact ⟨0, _, _, Nat.zero_le _, Nat.zero_le _, rfl, HR5⟩
      case round =>
        clear HR5
        obtain ⟨i, s', Tl, hin, hi6', rfl, hR⟩ := hrel
        by_cases hlt1 : i < n
        · by_cases hlt2 : i < 6
          · obtain ⟨ad, kd, ix, Ab, nb, cb, lb, Ak, nk, ck, lk, At, nt, ct, lt, rfl, hop⟩ := hb0.out.below hR.out.below (Nat.le_refl _) i hlt1
            have HOP := Lib.hid hop
            obtain ⟨-, q1, q2, -, -⟩ := hop.cells
            clear hop
            obtain ⟨j, hj, hjj⟩ := mod_named ix 6 (by omega) (by omega)
            have hjj' := hjj.out
            obtain ⟨kb, hkb1, hkb2, hkb, hmin⟩ := min_named nb 64
            have HKB := Lib.hid hkb; clear hkb
            go_wp2_with fail
            refine wp_region_still_tail 15 (by kernel_rfl) (by kernel_rfl) ?_
            simp only [List.take_succ_cons, List.take_zero, List.drop_succ_cons, List.drop_zero]
            iterate 13 still_step
            refine wpStill_min2 rfl (.tmp 64) (.const (.int .i64 64)) _ rfl .i64 _ _ _ rfl rfl hmin.out ?_
            have hkc : kb ≤ cb := Nat.le_trans hkb1 HOP.out.sb.2.1
            still_step
            refine wpStill_nil ?_
            change wpList _ _ _ _ _ wr.drew
            have HRd : Hid (SafeAt w wr.drew g c m i s' g4 s.cur gt Tl) := ⟨hR.out.dev, hR.out.plain, hR.out.wr_, hR.out.below.drew, hR.out.olds, hR.out.lo_, hR.out.row, hR.out.tl, hR.out.marks, hR.out.far⟩
            have HBb : Hid (Bs wr.drew w.heap.size Ab (lb.take kb)) := HOP.out.bs.take kb
            have HLb : Hid ((lb.take kb).length = kb) := by
              show _ = _
              rw [List.length_take, HOP.out.lb_]; omega
            clear q1 q2 hR HOP
            generalize wr.drew = wd at HRd HBb ⊢
            have hj6 : j < 6 := by omega
            have hpw := HRd.out.plain.write (n := 6) hj6 (b := lb.take kb) (by rw [HLb.out]; exact hkb2)
            have cw := write_any (j : Int) _ _ kb cb (lb.take kb) (by omega) HLb HBb (Lib.hid HRd.out.dev) (by have := HRd.out.wr_; omega)
            rw [hpw.1, hpw.2] at cw
            clear hpw hjj'
            go_wp2_with (go_at_call 11; refine cw.mono ?_; rintro e w3 ⟨rfl, hd3, hk3⟩; have HD3 := Lib.hid (And.intro hd3 hk3); clear hd3 hk3 cw; obtain ⟨hct, hft⟩ := BRow.cell ((HD3.out.2.block gt (Array.getElem?_eq_some_iff.1 HRd.out.row).1 (by obtain ⟨_, _, _, f1, f2, f3, _⟩ := HRd.out.far; rintro (h | h | h) <;> omega)).trans HRd.out.row) (j := j) (by rw [HRd.out.tl]; exact hj6))
            have HR3 : Hid (SafeAt w (w3.setCell ⟨gt, j, none⟩ (.bool true)) g c m (i + 1) (s'.wrote j (lb.take kb)) g4 s.cur gt (Tl.set j true)) := by
              obtain ⟨q1, q2, q3⟩ := HRd.out.dev.lt
              obtain ⟨f1, f2, f3, f4, f5, f6, f7, f8, f9⟩ := HRd.out.far
              have hgt : gt < wd.heap.size := (Array.getElem?_eq_some_iff.1 HRd.out.row).1
              have hrow : BRow w3 gt Tl := (HD3.out.2.block gt hgt (by rintro (h | h | h) <;> omega)).trans HRd.out.row
              have kt : Kept (fun k => k = gt) w3 (w3.setCell ⟨gt, j, none⟩ (.bool true)) := Kept.setCell (S := fun k => k = gt) w3 ⟨gt, j, none⟩ _ rfl
              have hb3 : Below w.heap.size w w3 := HRd.out.below.trans (HD3.out.2.below HRd.out.below.size HS.out)
              refine ⟨HD3.out.1.kept kt (fun e => f4 e.symm) (fun e => f5 e.symm) (fun e => f6 e.symm), HRd.out.plain.wrote j _, by have := HRd.out.wr_; show s'.wr + 1 ≤ _; omega, hb3.setCell f9 _, ?_, ?_, hrow.set j true, by rw [List.length_set]; exact HRd.out.tl, fun q hq h => ?_, f1, f2, f3, f4, f5, f6, f7, f8, f9⟩
              · refine ((HRd.out.olds.kept HD3.out.2 (fun ad e _ h => ?_)).kept kt (fun ad e _ h => ?_)).more (Nat.le_trans HD3.out.2.size kt.size)
                · injection e with e
                  subst e
                  rcases h with h | h | h
                  · exact f1 h
                  · exact f2 h
                  · exact f3 h
                · injection e with e
                  subst e
                  exact f7 h
              · rw [crashed_wrote HRd.out.dev.cur_len hj6 (by rw [HLb.out]; exact hkb2)]
                exact HRd.out.lo_
              · rw [getD_setB (by rw [HRd.out.tl]; exact hj6)]
                rcases wrote_old h with h | h
                · rw [if_pos h]
                · by_cases e : q = j
                  · rw [if_pos e]
                  · rw [if_neg e]; exact HRd.out.marks q hq h
            clear HRd HD3 hct hft
            go_roundw
            case rel => exact ⟨i + 1, _, _, by omega, by omega, by go_num, HR3⟩
            case measure => simp [RowKit.intOf]; omega
          · have hd12 : decide ((i : Int) < 6) = false := by simp; omega
            obtain ⟨k1, hk1, hk1', hke1, hmin1⟩ := min_named n1 9
            obtain ⟨k2, hk2, hk2', hke2, hmin2⟩ := min_named n2 5
            have HKE := Lib.hid (And.intro hke1 hke2); clear hke1 hke2
            have hc1' : k1 ≤ c1 := Nat.le_trans hk1 HS1.out.2.1
            have hc2' : k2 ≤ c2 := Nat.le_trans hk2 HS2.out.2.1
            go_wp2_with fail
            refine (image_any (Lib.hid hR.out.dev)).mono ?_
            rintro e w6 ⟨g6, c6, rfl, hg6, hbs6, hlc6, -, hb6, -⟩
            have HCL6 : Hid (s'.cur.length = 384) := hR.out.dev.cur_len
            rw [HCL6.out] at hlc6 ⊢
            have HR6 : Hid (SafeAt w w6 g c m i s' g4 s.cur gt Tl ∧ Bs w6 w6.heap.size (some ⟨g6, 0, none⟩) s'.cur) :=
              ⟨⟨hR.out.dev.next hb6, hR.out.plain, hR.out.wr_, hR.out.below.trans (hb6.mono hR.out.below.size), hR.out.olds.next hb6, hR.out.lo_, (hb6.block gt (Array.getElem?_eq_some_iff.1 hR.out.row).1).trans hR.out.row, hR.out.tl, hR.out.marks, hR.out.far⟩, hbs6⟩
            clear hbs6 hb6 hR
            go_wp2_with fail
            refine wp_region_still_tail 11 (by kernel_rfl) (by kernel_rfl) ?_
            simp only [List.take_succ_cons, List.take_zero, List.drop_succ_cons, List.drop_zero]
            iterate 4 still_step
            refine wpStill_min2 rfl (.tmp 77) (.const (.int .i64 9)) _ rfl .i64 _ _ _ rfl rfl hmin1.out ?_
            iterate 4 still_step
            refine wpStill_min2 rfl (.tmp 82) (.const (.int .i64 5)) _ rfl .i64 _ _ _ rfl rfl hmin2.out ?_
            still_step
            refine wpStill_nil ?_
            change wpList _ _ _ _ _ w6.drew
            have HRd : Hid (SafeAt w w6.drew g c m i s' g4 s.cur gt Tl ∧ Bs w6.drew w6.drew.heap.size (some ⟨g6, 0, none⟩) s'.cur) := ⟨⟨HR6.out.1.dev, HR6.out.1.plain, HR6.out.1.wr_, HR6.out.1.below.drew, HR6.out.1.olds, HR6.out.1.lo_, HR6.out.1.row, HR6.out.1.tl, HR6.out.1.marks, HR6.out.1.far⟩, HR6.out.2⟩
            generalize w6.drew = wd at HRd ⊢
            clear HR6
            have HLK : Hid ((l1.take k1).length = k1) := by
              show _ = _
              rw [List.length_take, hl1.out]; omega
            have HLT : Hid ((l2.take k2).length = k2) := by
              show _ = _
              rw [List.length_take, hl2.out]; omega
            go_wp2_with fail
            refine (crash_any A1 A2 k1 c1 k2 c2 (l1.take k1) (l2.take k2) (by omega) HLK HLT (Lib.hid (((hb1.out.take k1).below HRd.out.1.below (Nat.le_refl _)).up HRd.out.1.below.size)) (Lib.hid (((hb2.out.take k2).below HRd.out.1.below (Nat.le_refl _)).up HRd.out.1.below.size)) (Lib.hid HRd.out.1.dev)).mono ?_
            rintro e w7 ⟨g7, c7, m7, rfl, hd7, -, -, -, hb7⟩
            have HR7 : Hid (Dev w7 g7 c7 m7 6 (Flash.fresh (crashed 6 s'.cur s'.old (l1.take k1) (l2.take k2))) ∧ Below w.heap.size w w7 ∧ Bs w7 w7.heap.size (some ⟨g4, 0, none⟩) s.cur ∧ Bs w7 w7.heap.size (some ⟨g6, 0, none⟩) s'.cur ∧ BRow w7 gt Tl) :=
              ⟨hd7, HRd.out.1.below.trans (hb7.mono HRd.out.1.below.size), HRd.out.1.olds.next hb7, HRd.out.2.next hb7, (hb7.block gt (Array.getElem?_eq_some_iff.1 HRd.out.1.row).1).trans HRd.out.1.row⟩
            have HLO := Lib.hid (And.intro HRd.out.1.lo_ (And.intro HRd.out.1.tl HRd.out.1.marks))
            clear hd7 hb7 HRd
            go_wp2_with fail
            refine (image_any (Lib.hid HR7.out.1)).mono ?_
            rintro e w8 ⟨g8, c8, rfl, -, hbs8, hlc8, -, hb8, -⟩
            rw [show (Flash.fresh (crashed 6 s'.cur s'.old (l1.take k1) (l2.take k2))).cur = crashed 6 s'.cur s'.old (l1.take k1) (l2.take k2) from rfl] at hbs8 hlc8 ⊢
            have HCC : Hid ((crashed 6 s'.cur s'.old (l1.take k1) (l2.take k2)).length = 384) := crashed_len _ _ _ _ _
            rw [HCC.out] at hlc8 ⊢
            have HR8 : Hid (Below w.heap.size w w8 ∧ Bs w8 w8.heap.size (some ⟨g4, 0, none⟩) s.cur ∧ Bs w8 w8.heap.size (some ⟨g6, 0, none⟩) s'.cur ∧ BRow w8 gt Tl ∧ Bs w8 w8.heap.size (some ⟨g8, 0, none⟩) (crashed 6 s'.cur s'.old (l1.take k1) (l2.take k2))) :=
              ⟨HR7.out.2.1.trans (hb8.mono HR7.out.2.1.size), HR7.out.2.2.1.next hb8, HR7.out.2.2.2.1.next hb8, (hb8.block gt (Array.getElem?_eq_some_iff.1 HR7.out.2.2.2.2).1).trans HR7.out.2.2.2.2, hbs8⟩
            clear hbs8 hb8 HR7
            go_wp2_with fail
            go_loopw [102] (fun pv wx => ∃ (p q : Nat), p ≤ 384 ∧ pv = .int .i64 (p : Int) ∧ wx = w8.drewN q) (fun pv _ => 384 - (RowKit.intOf pv).toNat)
            case atStart => exact ⟨0, 0, Nat.zero_le _, rfl, rfl⟩
            case round =>
              obtain ⟨p, q, hp, rfl, rfl⟩ := hrel
              by_cases hlp : p < 384
              · obtain ⟨-, ad1, e, -, hc8⟩ := HR8.out.2.2.2.2 p (by rw [HCC.out]; exact hlp)
                injection e with e
                subst e
                obtain ⟨-, ad2, e, -, hc4⟩ := HR8.out.2.1 p (by rw [HCL.out]; exact hlp)
                injection e with e
                subst e
                obtain ⟨-, ad3, e, -, hc6⟩ := HR8.out.2.2.1 p (by rw [HCL6.out]; exact hlp)
                injection e with e
                subst e
                rw [add_flat, Nat.zero_add] at hc8 hc4 hc6
                have hp6 : p / 64 < 6 := by omega
                obtain ⟨hct, -⟩ := HR8.out.2.2.2.1.cell (j := p / 64) (by rw [HLO.out.2.1]; exact hp6)
                have hei : (crashed 6 s'.cur s'.old (l1.take k1) (l2.take k2)).getD p 0 = s.cur.getD p 0 ∨ (Tl.getD (p / 64) false = true ∧ (crashed 6 s'.cur s'.old (l1.take k1) (l2.take k2)).getD p 0 = s'.cur.getD p 0) := by
                  have e : s.cur.getD p 0 = crashByte s'.cur s'.old [] [] p := by rw [← crashed_get (n := 6) (by omega), ← HLO.out.1]
                  rw [crashed_get (by omega), e]
                  rcases crashByte_either s'.cur s'.old (l1.take k1) (l2.take k2) p with h | ⟨h1, h2⟩
                  · exact .inl h
                  · exact .inr ⟨HLO.out.2.2 _ hp6 h1, h2⟩
                generalize (crashed 6 s'.cur s'.old (l1.take k1) (l2.take k2)).getD p 0 = a at hc8 hei
                generalize s.cur.getD p 0 = b at hc4 hei
                generalize s'.cur.getD p 0 = y at hc6 hei
                generalize Tl.getD (p / 64) false = tt at hct hei
                have hip : (0 : Int) ≤ (p : Int) / 64 := by omega
                have hip2 : (p : Int) / 64 < 6 := by omega
                by_cases hab : a = b
                · subst hab
                  clear hei
                  go_wp2_with fail
                  go_quiet (fail)
                  go_wp2
                  go_roundw
                  case rel => exact ⟨p + 1, _, by omega, by go_num, rfl⟩
                  case measure => simp [RowKit.intOf]; omega
                · obtain ⟨rfl, rfl⟩ : tt = true ∧ a = y := by rcases hei with h | h; exact absurd h hab; exact h
                  have h1 : ((a : Int) != (b : Int)) = true := by rw [bne_iff_ne]; omega
                  have HAB := Lib.hid hab
                  clear hei hab
                  go_wp2_with fail
                  go_quiet (fail)
                  go_wp2
                  go_roundw
                  case rel => exact ⟨p + 1, _, by omega, by go_num, rfl⟩
                  case measure => simp [RowKit.intOf]; omega
              · go_wp2_with (go_at_call 23; refine (awake_any _).mono ?_; rintro e w9 ⟨rfl, hb9⟩)
                go_ret
                refine ⟨rfl, Below.trans (b := w8.drewN q) ?_ (hb9.mono HR8.out.1.size)⟩
                exact ⟨HR8.out.1.os, HR8.out.1.tape, HR8.out.1.output, HR8.out.1.size, HR8.out.1.block⟩
        · have hdk : decide ((i : Int) < (n : Int)) = false := by simp; omega
          obtain ⟨k1, hk1, hk1', hke1, hmin1⟩ := min_named n1 9
          obtain ⟨k2, hk2, hk2', hke2, hmin2⟩ := min_named n2 5
          have HKE := Lib.hid (And.intro hke1 hke2); clear hke1 hke2
          have hc1' : k1 ≤ c1 := Nat.le_trans hk1 HS1.out.2.1
          have hc2' : k2 ≤ c2 := Nat.le_trans hk2 HS2.out.2.1
          go_wp2_with fail
          refine (image_any (Lib.hid hR.out.dev)).mono ?_
          rintro e w6 ⟨g6, c6, rfl, hg6, hbs6, hlc6, -, hb6, -⟩
          have HCL6 : Hid (s'.cur.length = 384) := hR.out.dev.cur_len
          rw [HCL6.out] at hlc6 ⊢
          have HR6 : Hid (SafeAt w w6 g c m i s' g4 s.cur gt Tl ∧ Bs w6 w6.heap.size (some ⟨g6, 0, none⟩) s'.cur) :=
            ⟨⟨hR.out.dev.next hb6, hR.out.plain, hR.out.wr_, hR.out.below.trans (hb6.mono hR.out.below.size), hR.out.olds.next hb6, hR.out.lo_, (hb6.block gt (Array.getElem?_eq_some_iff.1 hR.out.row).1).trans hR.out.row, hR.out.tl, hR.out.marks, hR.out.far⟩, hbs6⟩
          clear hbs6 hb6 hR
          go_wp2_with fail
          refine wp_region_still_tail 11 (by kernel_rfl) (by kernel_rfl) ?_
          simp only [List.take_succ_cons, List.take_zero, List.drop_succ_cons, List.drop_zero]
          iterate 4 still_step
          refine wpStill_min2 rfl (.tmp 77) (.const (.int .i64 9)) _ rfl .i64 _ _ _ rfl rfl hmin1.out ?_
          iterate 4 still_step
          refine wpStill_min2 rfl (.tmp 82) (.const (.int .i64 5)) _ rfl .i64 _ _ _ rfl rfl hmin2.out ?_
          still_step
          refine wpStill_nil ?_
          change wpList _ _ _ _ _ w6.drew
          have HRd : Hid (SafeAt w w6.drew g c m i s' g4 s.cur gt Tl ∧ Bs w6.drew w6.drew.heap.size (some ⟨g6, 0, none⟩) s'.cur) := ⟨⟨HR6.out.1.dev, HR6.out.1.plain, HR6.out.1.wr_, HR6.out.1.below.drew, HR6.out.1.olds, HR6.out.1.lo_, HR6.out.1.row, HR6.out.1.tl, HR6.out.1.marks, HR6.out.1.far⟩, HR6.out.2⟩
          generalize w6.drew = wd at HRd ⊢
          clear HR6
          have HLK : Hid ((l1.take k1).length = k1) := by
            show _ = _
            rw [List.length_take, hl1.out]; omega
          have HLT : Hid ((l2.take k2).length = k2) := by
            show _ = _
            rw [List.length_take, hl2.out]; omega
          go_wp2_with fail
          refine (crash_any A1 A2 k1 c1 k2 c2 (l1.take k1) (l2.take k2) (by omega) HLK HLT (Lib.hid (((hb1.out.take k1).below HRd.out.1.below (Nat.le_refl _)).up HRd.out.1.below.size)) (Lib.hid (((hb2.out.take k2).below HRd.out.1.below (Nat.le_refl _)).up HRd.out.1.below.size)) (Lib.hid HRd.out.1.dev)).mono ?_
          rintro e w7 ⟨g7, c7, m7, rfl, hd7, -, -, -, hb7⟩
          have HR7 : Hid (Dev w7 g7 c7 m7 6 (Flash.fresh (crashed 6 s'.cur s'.old (l1.take k1) (l2.take k2))) ∧ Below w.heap.size w w7 ∧ Bs w7 w7.heap.size (some ⟨g4, 0, none⟩) s.cur ∧ Bs w7 w7.heap.size (some ⟨g6, 0, none⟩) s'.cur ∧ BRow w7 gt Tl) :=
            ⟨hd7, HRd.out.1.below.trans (hb7.mono HRd.out.1.below.size), HRd.out.1.olds.next hb7, HRd.out.2.next hb7, (hb7.block gt (Array.getElem?_eq_some_iff.1 HRd.out.1.row).1).trans HRd.out.1.row⟩
          have HLO := Lib.hid (And.intro HRd.out.1.lo_ (And.intro HRd.out.1.tl HRd.out.1.marks))
          clear hd7 hb7 HRd
          go_wp2_with fail
          refine (image_any (Lib.hid HR7.out.1)).mono ?_
          rintro e w8 ⟨g8, c8, rfl, -, hbs8, hlc8, -, hb8, -⟩
          rw [show (Flash.fresh (crashed 6 s'.cur s'.old (l1.take k1) (l2.take k2))).cur = crashed 6 s'.cur s'.old (l1.take k1) (l2.take k2) from rfl] at hbs8 hlc8 ⊢
          have HCC : Hid ((crashed 6 s'.cur s'.old (l1.take k1) (l2.take k2)).length = 384) := crashed_len _ _ _ _ _
          rw [HCC.out] at hlc8 ⊢
          have HR8 : Hid (Below w.heap.size w w8 ∧ Bs w8 w8.heap.size (some ⟨g4, 0, none⟩) s.cur ∧ Bs w8 w8.heap.size (some ⟨g6, 0, none⟩) s'.cur ∧ BRow w8 gt Tl ∧ Bs w8 w8.heap.size (some ⟨g8, 0, none⟩) (crashed 6 s'.cur s'.old (l1.take k1) (l2.take k2))) :=
            ⟨HR7.out.2.1.trans (hb8.mono HR7.out.2.1.size), HR7.out.2.2.1.next hb8, HR7.out.2.2.2.1.next hb8, (hb8.block gt (Array.getElem?_eq_some_iff.1 HR7.out.2.2.2.2).1).trans HR7.out.2.2.2.2, hbs8⟩
          clear hbs8 hb8 HR7
          go_wp2_with fail
          go_loopw [102] (fun pv wx => ∃ (p q : Nat), p ≤ 384 ∧ pv = .int .i64 (p : Int) ∧ wx = w8.drewN q) (fun pv _ => 384 - (RowKit.intOf pv).toNat)
          case atStart => exact ⟨0, 0, Nat.zero_le _, rfl, rfl⟩
          case round =>
            obtain ⟨p, q, hp, rfl, rfl⟩ := hrel
            by_cases hlp : p < 384
            · obtain ⟨-, ad1, e, -, hc8⟩ := HR8.out.2.2.2.2 p (by rw [HCC.out]; exact hlp)
              injection e with e
              subst e
              obtain ⟨-, ad2, e, -, hc4⟩ := HR8.out.2.1 p (by rw [HCL.out]; exact hlp)
              injection e with e
              subst e
              obtain ⟨-, ad3, e, -, hc6⟩ := HR8.out.2.2.1 p (by rw [HCL6.out]; exact hlp)
              injection e with e
              subst e
              rw [add_flat, Nat.zero_add] at hc8 hc4 hc6
              have hp6 : p / 64 < 6 := by omega
              obtain ⟨hct, -⟩ := HR8.out.2.2.2.1.cell (j := p / 64) (by rw [HLO.out.2.1]; exact hp6)
              have hei : (crashed 6 s'.cur s'.old (l1.take k1) (l2.take k2)).getD p 0 = s.cur.getD p 0 ∨ (Tl.getD (p / 64) false = true ∧ (crashed 6 s'.cur s'.old (l1.take k1) (l2.take k2)).getD p 0 = s'.cur.getD p 0) := by
                have e : s.cur.getD p 0 = crashByte s'.cur s'.old [] [] p := by rw [← crashed_get (n := 6) (by omega), ← HLO.out.1]
                rw [crashed_get (by omega), e]
                rcases crashByte_either s'.cur s'.old (l1.take k1) (l2.take k2) p with h | ⟨h1, h2⟩
                · exact .inl h
                · exact .inr ⟨HLO.out.2.2 _ hp6 h1, h2⟩
              generalize (crashed 6 s'.cur s'.old (l1.take k1) (l2.take k2)).getD p 0 = a at hc8 hei
              generalize s.cur.getD p 0 = b at hc4 hei
              generalize s'.cur.getD p 0 = y at hc6 hei
              generalize Tl.getD (p / 64) false = tt at hct hei
              have hip : (0 : Int) ≤ (p : Int) / 64 := by omega
              have hip2 : (p : Int) / 64 < 6 := by omega
              by_cases hab : a = b
              · subst hab
                clear hei
                go_wp2_with fail
                go_quiet (fail)
                go_wp2
                go_roundw
                case rel => exact ⟨p + 1, _, by omega, by go_num, rfl⟩
                case measure => simp [RowKit.intOf]; omega
              · obtain ⟨rfl, rfl⟩ : tt = true ∧ a = y := by rcases hei with h | h; exact absurd h hab; exact h
                have h1 : ((a : Int) != (b : Int)) = true := by rw [bne_iff_ne]; omega
                have HAB := Lib.hid hab
                clear hei hab
                go_wp2_with fail
                go_quiet (fail)
                go_wp2
                go_roundw
                case rel => exact ⟨p + 1, _, by omega, by go_num, rfl⟩
                case measure => simp [RowKit.intOf]; omega
            · go_wp2_with (go_at_call 23; refine (awake_any _).mono ?_; rintro e w9 ⟨rfl, hb9⟩)
              go_ret
              refine ⟨rfl, Below.trans (b := w8.drewN q) ?_ (hb9.mono HR8.out.1.size)⟩
              exact ⟨HR8.out.1.os, HR8.out.1.tape, HR8.out.1.output, HR8.out.1.size, HR8.out.1.block⟩
end Go.Proofs.Ytfacinlpkblopaa
