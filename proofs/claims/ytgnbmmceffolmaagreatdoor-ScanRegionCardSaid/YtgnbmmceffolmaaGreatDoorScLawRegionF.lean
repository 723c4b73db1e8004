/-
  The law ScanRegion.
-/
import Derived.Test.YtgnbmmceffolmaaGreatDoorScWriteF
import Derived.Test.YtgnbmmceffolmaaGreatDoorFoldS
import Derived.Test.YtgnbmmceffolmaaGreatDoorScRefRecsF
import Derived.Test.YtgnbmmceffolmaaGreatDoorFoldR
import Derived.Test.YtgnbmmceffolmaaGreatDoorFoldP
import Derived.BigQuiet
set_option maxRecDepth 100000
namespace Go.Proofs.YtgnbmmceffolmaaGreatDoor
open Go.RowKit
theorem fds_next {w w' : World} {A : Option Addr} {l : List Fd} (h : FdsAt w w.heap.size A l) (hb : Below w.heap.size w w') : FdsAt w' w'.heap.size A l :=
  ⟨(h.below hb (Nat.le_refl _)).1.up hb.size, fun x hx => ⟨⟨⟨(h.2 x hx).1.1.1, (h.2 x hx).1.1.2.1, ((h.2 x hx).1.1.2.2.below hb (Nat.le_refl _)).more hb.size⟩, ⟨(h.2 x hx).1.2.1, (h.2 x hx).1.2.2.1, ((h.2 x hx).1.2.2.2.below hb (Nat.le_refl _)).more hb.size⟩⟩, (h.2 x hx).2⟩⟩
/-- Two lists that say the same are equal. -/
theorem eq_both {w w' : World} {ds : List (Nat × Rc.Rec)} {A A' : Option Addr} {l l' : List Fd} (h : l.length = ds.length ∧ FdsAt w w.heap.size A l ∧ l.map Fd.says = ds.map Sc.say) (h' : l'.length = ds.length ∧ FdsAt w' w'.heap.size A' l' ∧ l'.map Fd.says = ds.map Sc.say) (hb : Below w.heap.size w w') (c c' : Nat) :
    ds.length ≤ 140737488355328 → Calls Tryz.prog 9 #[.slice A ds.length c, .slice A' ds.length c'] w' fun e w2 => e = .returned (.bool true) ∧ Below w'.heap.size w' w2 := fun hn => by
  have h2 := refeqfd_any A A' w'.heap.size w'.heap.size ds.length ds.length c c' l l' w' (Nat.le_refl _) (Nat.le_refl _) h.1 h'.1 hn (fds_next h.2.1 hb) h'.2.1
  rw [decide_eq_true (h.2.2.trans h'.2.2.symm)] at h2
  exact h2
theorem recsF_len (v seq : Int) (D : List Nat) : ∀ f off, (Sc.recsF v seq D f off).length ≤ f
  | 0, _ => Nat.le_refl _
  | f + 1, off => by
    show (if _ then _ else _ : List (Nat × Rc.Rec)).length ≤ _
    split
    · split
      · have := recsF_len v seq D f ((off / 59 + 1) * 59); omega
      · split
        · rw [List.length_cons]
          have := recsF_len v seq D f (off + Rc.len (Rc.rec v (D.drop off))); omega
        · exact Nat.zero_le _
    · exact Nat.zero_le _
theorem region_few (img : List Nat) (ver : Int) (rs : Nat) (h : rs ≤ 16) (slot seq : Int) : (Sc.region img ⟨3, ver, (rs : Int), 4⟩ slot seq).length ≤ 140737488355328 := by
  unfold Sc.region
  split
  · have h1 := recsF_len ver seq (Sc.stream img ⟨3, ver, (rs : Int), 4⟩ slot seq 0 ((rs : Int) - 1).toNat) ((Sc.stream img ⟨3, ver, (rs : Int), 4⟩ slot seq 0 ((rs : Int) - 1).toNat).length + 1 - 0) 0
    have h2 := Sc.stream_len (img := img) (l := ⟨3, ver, (rs : Int), 4⟩) (slot := slot) (seq := seq) ((rs : Int) - 1).toNat 0
    unfold Sc.recs
    simp only at h1 h2 ⊢
    omega
  · exact Nat.zero_le _
theorem head_tuple (o : Option Hd.H) : ∃ (t : Bool) (h0 h1 h2 h3 h4 h5 : Int), ∀ (W W' : World) (r : Ending), HeadIs W o r W' → r = .returned (.tuple #[.agg #[.int .i64 h0, .int .i64 h1, .int .i64 h2, .int .i64 h3, .int .i64 h4, .int .i64 h5], .bool t]) ∧ Below W.heap.size W W' := by
  cases o with
  | none => exact ⟨false, 0, 0, 0, 0, 0, 0, fun W W' r h => h.elim (fun k => by obtain ⟨_, e, _⟩ := k; cases e) (fun k => k.2)⟩
  | some x => exact ⟨true, x.ver, x.slot, x.lay, x.seq, x.tail, x.now, fun W W' r h => h.elim (fun k => by obtain ⟨y, e, k⟩ := k; cases e; exact k) (fun k => by cases k.1)⟩
theorem hdr_eqs (w : World) (a b c d e f : Int) : (Op.equalIn 10000 35 (.agg #[.int .i64 a, .int .i64 b, .int .i64 c, .int .i64 d, .int .i64 e, .int .i64 f]) (.agg #[.int .i64 a, .int .i64 b, .int .i64 c, .int .i64 d, .int .i64 e, .int .i64 f])).run Tryz.prog w = .ok true w := by
  have h := hdr_eq w ⟨a, b, c, d, e, f⟩ ⟨a, b, c, d, e, f⟩
  rwa [Hd.same_self] at h
set_option maxHeartbeats 4000000 in
theorem scanregion_any (xv xg xm : Int) (A1 A2 A3 : Option Addr) (n1 n2 n3 c1 c2 c3 : Nat) (l1 : List Rd) (l2 : List Bool) (l3 : List Spl) (w : World) (hl1 : Hid (l1.length = n1)) (hb1 : Hid (RecsAt w w.heap.size A1 l1)) (hl2 : Hid (l2.length = n2)) (hb2 : Hid (Arr boolS w 0 w.heap.size A2 l2)) (hl3 : Hid (l3.length = n3)) (hb3 : Hid (Arr spS w 0 w.heap.size A3 l3 ∧ ∀ k, k < n3 → (l3.getD k Spl0).ok)) (ht : Hid (TabW w)) (hz : 0 < w.heap.size) :
    Calls Tryz.prog 3 #[.agg #[.int .i64 xv, .int .i64 xg, .slice A1 n1 c1, .slice A2 n2 c2, .slice A3 n3 c3, .int .i64 xm]] w fun e w' => e = .returned (.bool true) ∧ Below w.heap.size w w' := by
  have HA : Hid (∀ W, Below w.heap.size w W → Calls Tryz.prog 8 #[] W fun e w' => e = .returned (.bool true) ∧ Below W.heap.size W w') := fun W hb => scawake_any W (Lib.hid (ht.out.below hb hz)) (Nat.lt_of_lt_of_le hz hb.size)
  have HX0 := Lib.hid (heap_alloc_new w (.cells #[.int .i64 xv, .int .i64 xg, .slice A1 n1 c1, .slice A2 n2 c2, .slice A3 n3 c3, .int .i64 xm] 26))
  have HB0 : Hid (Below w.heap.size w (w.alloc (.cells #[.int .i64 xv, .int .i64 xg, .slice A1 n1 c1, .slice A2 n2 c2, .slice A3 n3 c3, .int .i64 xm] 26))) := (Below.refl _ w).alloc (Nat.le_refl _) _
  obtain ⟨ss, hss⟩ : ∃ ss : Int, 9 + xm.tmod 3 = ss := ⟨_, rfl⟩
  have hs3 : -3 < xm.tmod 3 ∧ xm.tmod 3 < 3 := by
    have h1 := Int.tmod_lt_of_pos xm (show (0 : Int) < 3 by decide)
    have h2 : (xm.tmod 3).natAbs = xm.natAbs % 3 := Int.natAbs_tmod xm 3
    omega
  have hw1 : wrap64 (9 + xm.tmod 3) = ss := by unfold wrap64; omega
  go_enter Tryz.func3, Tryz.ntmps3
  go_upto_region 1 with fail
  generalize w.alloc (.cells #[.int .i64 xv, .int .i64 xg, .slice A1 n1 c1, .slice A2 n2 c2, .slice A3 n3 c3, .int .i64 xm] 26) = w0 at *
  obtain ⟨z0, z1, z2, z3, z4, z5⟩ := six_cells HX0.out
  obtain ⟨ver, rs, hsm, hcall⟩ := written_any xv xg A1 A2 A3 n1 n2 n3 c1 c2 c3 l1 l2 l3 w0 hl1 (by
    have h := hb1.out.below HB0.out (Nat.le_refl _)
    exact ⟨h.1.up HB0.out.size, fun k hk => ⟨⟨(h.2 k hk).1.1, (h.2 k hk).1.2.1, (h.2 k hk).1.2.2.more HB0.out.size⟩, ⟨(h.2 k hk).2.1, (h.2 k hk).2.2.1, (h.2 k hk).2.2.2.more HB0.out.size⟩⟩⟩) hl2 ((hb2.out.below HB0.out (Nat.le_refl _)).up HB0.out.size) hl3 ⟨(hb3.out.1.below HB0.out (Nat.le_refl _)).up HB0.out.size, hb3.out.2⟩
  have HRS : Hid (rs ≤ 16 ∧ 2 ≤ rs) := by have := hsm.2; show _ ∧ _; omega
  have HWC := Lib.hid hcall
  clear hsm hcall
  go_wp2_with fail
  refine HWC.out.mono ?_
  rintro e w2 ⟨ga, NN, cp, img, rfl, hNN, hcp, hil, hbs, hb2', -⟩
  have HB2 := Lib.hid (HB0.out.trans (hb2'.mono HB0.out.size))
  have HX2 := Lib.hid ((hb2'.block _ (Array.getElem?_eq_some_iff.1 HX0.out).1).trans HX0.out)
  have HBS := Lib.hid hbs
  have HIL := Lib.hid hil
  have HNN := Lib.hid hNN
  have HCP := Lib.hid hcp
  clear hb2' hbs hil hNN hcp HWC z0 z1 z2 z3 z4 z5 HX0 HB0
  go_upto_region 2 with fail
  have HX3 := Lib.hid (heap_alloc_new w2 (.cells #[.int .i64 3, .int .i64 ver, .int .i64 (rs : Int), .int .i64 4] 29))
  have HB3 : Hid (Below w.heap.size w (w2.alloc (.cells #[.int .i64 3, .int .i64 ver, .int .i64 (rs : Int), .int .i64 4] 29))) := HB2.out.alloc HB2.out.size _
  have HC3 := Lib.hid ((heap_alloc_old w2 (.cells #[.int .i64 3, .int .i64 ver, .int .i64 (rs : Int), .int .i64 4] 29) (Array.getElem?_eq_some_iff.1 HX2.out).1).trans HX2.out)
  have HBS3 : Hid (Bs (w2.alloc (.cells #[.int .i64 3, .int .i64 ver, .int .i64 (rs : Int), .int .i64 4] 29)) (w2.alloc (.cells #[.int .i64 3, .int .i64 ver, .int .i64 (rs : Int), .int .i64 4] 29)).heap.size (some ⟨ga, 0, none⟩) img) := (HBS.out.below ((Below.refl _ w2).alloc (Nat.le_refl _) _) (Nat.le_refl _)).more (by simp)
  clear HBS HB2 HX2
  generalize w2.alloc (.cells #[.int .i64 3, .int .i64 ver, .int .i64 (rs : Int), .int .i64 4] 29) = w3 at *
  generalize w2.heap.size = q3 at *
  have HNB : Hid (NN ≤ 67108864) := by show _ ≤ _; have := HRS.out; have := HNN.out; omega
  go_wp2_with fail
  refine (show Calls Tryz.prog 5 #[.slice (some ⟨ga, 0, none⟩) NN cp] w3 (MadeDev w3 (74 + 4 * rs) img) from by
    rw [HNN.out]
    exact load_yes (some ⟨ga, 0, none⟩) w3.heap.size (74 + 4 * rs) cp img w3 (fun e => by cases e) (by show _ = _; rw [HIL.out, HNN.out]) (by omega) (by have := HRS.out; omega) HBS3).mono ?_
  rintro e w4 ⟨g4, c4, m4, rfl, hd4, -, -, -, hb4⟩
  have HLYC : Hid (∀ W, Below w4.heap.size w4 W → W.heap[q3]? = some (.cells #[.int .i64 3, .int .i64 ver, .int .i64 (rs : Int), .int .i64 4] 29 (0, 0)) ∧ Below w.heap.size w W) := fun W hW => ⟨((hb4.trans (hW.mono hb4.size)).block _ (Array.getElem?_eq_some_iff.1 HX3.out).1).trans HX3.out, HB3.out.trans ((hb4.trans (hW.mono hb4.size)).mono HB3.out.size)⟩
  have HCAS : Hid (∀ W, Below w4.heap.size w4 W → W.cell? ⟨w.heap.size, 5, none⟩ = some (.int .i64 xm)) := fun W hW => (six_cells (((hb4.trans (hW.mono hb4.size)).block _ (Array.getElem?_eq_some_iff.1 HC3.out).1).trans HC3.out)).2.2.2.2.2
  have HSH : Hid (∀ (s : Int) W, Below w4.heap.size w4 W → Calls Tryz.prog 6 #[.pointer (some ⟨g4, 0, none⟩), .agg #[.int .i64 3, .int .i64 ver, .int .i64 (rs : Int), .int .i64 4], .int .i64 s] W (HeadIs W (Sc.head img ⟨3, ver, (rs : Int), 4⟩ s))) := fun s W hW => by
    have h := scheader_any 3 ver (rs : Int) 4 s W (Lib.hid (hd4.on hW)) (ht.out.below (HLYC.out W hW).2 hz) (Nat.lt_of_lt_of_le hz (HLYC.out W hW).2.size)
    rwa [seen_plain (show (Flash.fresh img).dead = false from rfl), show (Flash.fresh img).cur = img from rfl] at h
  have HSR : Hid (∀ (s : Int) W, Below w4.heap.size w4 W → Calls Tryz.prog 10 #[.pointer (some ⟨g4, 0, none⟩), .agg #[.int .i64 3, .int .i64 ver, .int .i64 (rs : Int), .int .i64 4], .int .i64 1, .int .i64 s] W (FoundIs W (Sc.region img ⟨3, ver, (rs : Int), 4⟩ 1 s))) := fun s W hW => by
    have h := scregion_any 3 ver (rs : Int) 4 1 s W (Lib.hid (hd4.on hW)) (ht.out.below (HLYC.out W hW).2 hz) (Nat.lt_of_lt_of_le hz (HLYC.out W hW).2.size)
    rwa [seen_plain (show (Flash.fresh img).dead = false from rfl), show (Flash.fresh img).cur = img from rfl] at h
  have HRH : Hid (∀ (s : Int) W, Below w4.heap.size w4 W → Calls Tryz.prog 7 #[.slice (some ⟨ga, 0, none⟩) NN cp, .agg #[.int .i64 3, .int .i64 ver, .int .i64 (rs : Int), .int .i64 4], .int .i64 s] W (HeadIs W (Sc.head img ⟨3, ver, (rs : Int), 4⟩ s))) := fun s W hW =>
    refscheader_any 3 ver (rs : Int) 4 s ga NN cp w3.heap.size img W (Nat.le_trans hb4.size hW.size) HIL.out HNB.out HCP.out (HBS3.out.below (hb4.trans (hW.mono hb4.size)) (Nat.le_refl _))
  have HRR : Hid (∀ (s : Int) W, Below w4.heap.size w4 W → Calls Tryz.prog 11 #[.slice (some ⟨ga, 0, none⟩) NN cp, .agg #[.int .i64 3, .int .i64 ver, .int .i64 (rs : Int), .int .i64 4], .int .i64 1, .int .i64 s] W (FoundIs W (Sc.region img ⟨3, ver, (rs : Int), 4⟩ 1 s))) := fun s W hW =>
    refscregion_any 3 ver (rs : Int) 4 1 s ga NN cp w3.heap.size img W (Nat.le_trans hb4.size hW.size) HIL.out HNB.out HCP.out (HBS3.out.below (hb4.trans (hW.mono hb4.size)) (Nat.le_refl _))
  have HFEW : Hid (∀ s : Int, (Sc.region img ⟨3, ver, (rs : Int), 4⟩ 1 s).length ≤ 140737488355328) := fun s => region_few img ver rs HRS.out.1 1 s
  clear hb4 hd4 HX3 HC3 HBS3 HB3 HIL HNN HCP HNB HRS hs3 hss
  go_wp2_with fail
  go_loopw [7] (fun iv wr => ∃ s : Int, iv = .int .i64 s ∧ -1 ≤ s ∧ s ≤ 5 ∧ Hid (Below w4.heap.size w4 wr)) (fun iv _ => (5 - Go.RowKit.intOf iv).toNat)
  case atStart => exact ⟨-1, rfl, by decide, by decide, Below.refl _ _⟩
  case round =>
    obtain ⟨s, rfl, hs1, hs2, HB⟩ := hrel
    by_cases hlt : s ≤ 4
    · have f0 : decide (s ≤ 4) = true := decide_eq_true hlt
      have f1 : wrap64 (s + 1) = s + 1 := by unfold wrap64; omega
      obtain ⟨z0, z1, z2, z3⟩ := four_cells (HLYC.out _ HB.out).1
      obtain ⟨t, h0, h1, h2, h3, h4, h5, hall⟩ := head_tuple (Sc.head img ⟨3, ver, (rs : Int), 4⟩ s)
      have HP := Lib.hid (fun W hW => (HSH.out s W hW).mono fun r W' k => hall W W' r k)
      have HR := Lib.hid (fun W hW => (HRH.out s W hW).mono fun r W' k => hall W W' r k)
      have hq := fun W : World => hdr_eqs W h0 h1 h2 h3 h4 h5
      clear hall
      go_wp2_with fail
      refine (HP.out _ HB.out).mono ?_
      rintro r wa ⟨rfl, hba⟩
      have HBa : Hid (Below w4.heap.size w4 wa) := HB.out.trans (hba.mono HB.out.size)
      have HBA : Hid (Below w4.heap.size w4 (wa.alloc (.cells #[.int .i64 h0, .int .i64 h1, .int .i64 h2, .int .i64 h3, .int .i64 h4, .int .i64 h5] 35))) := HBa.out.alloc HBa.out.size _
      have HNA : Hid ((wa.alloc (.cells #[.int .i64 h0, .int .i64 h1, .int .i64 h2, .int .i64 h3, .int .i64 h4, .int .i64 h5] 35)).heap[wa.heap.size]? = some (.cells #[.int .i64 h0, .int .i64 h1, .int .i64 h2, .int .i64 h3, .int .i64 h4, .int .i64 h5] 35 (0, 0))) := heap_alloc_new _ _
      clear hba z0 z1 z2 z3
      go_upto_region 7 with fail
      generalize wa.alloc (.cells #[.int .i64 h0, .int .i64 h1, .int .i64 h2, .int .i64 h3, .int .i64 h4, .int .i64 h5] 35) = wb at *
      obtain ⟨z0, z1, z2, z3⟩ := four_cells (HLYC.out _ HBA.out).1
      go_wp2_with fail
      refine (HR.out _ HBA.out).mono ?_
      rintro r wc ⟨rfl, hbc⟩
      have HMC : Hid (wc.heap[wa.heap.size]? = some (.cells #[.int .i64 h0, .int .i64 h1, .int .i64 h2, .int .i64 h3, .int .i64 h4, .int .i64 h5] 35 (0, 0))) := (hbc.block _ (Array.getElem?_eq_some_iff.1 HNA.out).1).trans HNA.out
      have HBC : Hid (Below w4.heap.size w4 wc) := HBA.out.trans (hbc.mono HBA.out.size)
      have HBD : Hid (Below w4.heap.size w4 (wc.alloc (.cells #[.int .i64 h0, .int .i64 h1, .int .i64 h2, .int .i64 h3, .int .i64 h4, .int .i64 h5] 35))) := HBC.out.alloc HBC.out.size _
      have HND : Hid ((wc.alloc (.cells #[.int .i64 h0, .int .i64 h1, .int .i64 h2, .int .i64 h3, .int .i64 h4, .int .i64 h5] 35)).heap[wc.heap.size]? = some (.cells #[.int .i64 h0, .int .i64 h1, .int .i64 h2, .int .i64 h3, .int .i64 h4, .int .i64 h5] 35 (0, 0))) := heap_alloc_new _ _
      have HMD : Hid ((wc.alloc (.cells #[.int .i64 h0, .int .i64 h1, .int .i64 h2, .int .i64 h3, .int .i64 h4, .int .i64 h5] 35)).heap[wa.heap.size]? = some (.cells #[.int .i64 h0, .int .i64 h1, .int .i64 h2, .int .i64 h3, .int .i64 h4, .int .i64 h5] 35 (0, 0))) := (heap_alloc_old _ _ (Array.getElem?_eq_some_iff.1 HMC.out).1).trans HMC.out
      clear hbc z0 z1 z2 z3 HMC HNA
      go_upto_region 8 with fail
      generalize wc.alloc (.cells #[.int .i64 h0, .int .i64 h1, .int .i64 h2, .int .i64 h3, .int .i64 h4, .int .i64 h5] 35) = wd at *
      obtain ⟨y0, y1, y2, y3, y4, y5⟩ := six_cells HMD.out
      obtain ⟨x0, x1, x2, x3, x4, x5⟩ := six_cells HND.out
      cases t
      all_goals
        go_wp2_with fail
        go_roundw
        · exact ⟨s + 1, rfl, by omega, by omega, HBD.out⟩
        · show (5 - (s + 1)).toNat < (5 - s).toNat; omega
    · have f0 : decide (s ≤ 4) = false := decide_eq_false hlt
      have z5 := HCAS.out _ HB.out
      have HD0 : Hid (Below w4.heap.size w4 wr.drew) := HB.out.trans ((below_drewN wr 1).mono HB.out.size)
      clear hlt hs1 hs2
      go_wp2_with fail
      refine wp_region_held_drew (S := fun W' => W'.cell? ⟨q3, 0, none⟩ = some (.int .i64 3) ∧ W'.cell? ⟨q3, 1, none⟩ = some (.int .i64 ver) ∧ W'.cell? ⟨q3, 2, none⟩ = some (.int .i64 (rs : Int)) ∧ W'.cell? ⟨q3, 3, none⟩ = some (.int .i64 4)) (by kernel_rfl) (four_cells (HLYC.out _ HD0.out).1) (fun hH => ?_)
      change wpAnyH _ _ _ _ _ 24 #[false, false, false, false, false, false, false, false, false, false, false, false, false, false, false, false, false, false, false, false, false, false, false, false] _ _
      refine held_step (i := 0) rfl (by kernel_rfl) ?_ (fun K hK => ?_)
      · rfl
      clear hH
      go_simp
      refine (HA.out _ (HLYC.out _ HD0.out).2).mono ?_
      rintro e w5 ⟨rfl, hb5⟩
      have HB5 := Lib.hid (HD0.out.trans (hb5.mono HD0.out.size))
      clear hb5
      have hH := four_cells (HLYC.out _ HB5.out).1
      refine hK _ _ hH ?_
      clear hK K
      simp only [List.setIfInBounds_toArray, List.set_cons_zero]
      refine held_take (i := 1) (v := ?_) (d := some 62) rfl rfl (by kernel_rfl) (by kernel_rfl) (by kernel_rfl) (fun _ _ _ h => h) hH ⟨?_, fun w hSw => ?_⟩ ?_
      rotate_left 1
      · rfl
      · (go_simp; all_goals with_reducible rfl)
      simp only [Act.put, List.setIfInBounds_toArray, List.set_cons_zero, List.set_cons_succ]
      first
        | refine held_skip (i := 2) (d := some 63) rfl rfl (by kernel_rfl) (by kernel_rfl) (by kernel_rfl) (fun _ _ _ h => h) hH ?_ ?_
          · rfl
          simp only [Act.put, List.setIfInBounds_toArray, List.set_cons_zero, List.set_cons_succ]
        | refine held_take (i := 2) (v := ?_) (d := some 63) rfl rfl (by kernel_rfl) (by kernel_rfl) (by kernel_rfl) (fun _ _ _ h => h) hH ⟨?_, fun w hSw => ?_⟩ ?_
          rotate_left 1
          · rfl
          · (go_simp; all_goals with_reducible rfl)
          simp only [Act.put, List.setIfInBounds_toArray, List.set_cons_zero, List.set_cons_succ]
      first
        | refine held_skip (i := 3) (d := some 64) rfl rfl (by kernel_rfl) (by kernel_rfl) (by kernel_rfl) (fun _ _ _ h => h) hH ?_ ?_
          · rfl
          simp only [Act.put, List.setIfInBounds_toArray, List.set_cons_zero, List.set_cons_succ]
        | refine held_take (i := 3) (v := ?_) (d := some 64) rfl rfl (by kernel_rfl) (by kernel_rfl) (by kernel_rfl) (fun _ _ _ h => h) hH ⟨?_, fun w hSw => ?_⟩ ?_
          rotate_left 1
          · rfl
          · obtain ⟨x0, x1, x2, x3⟩ := hSw
            (go_simp; all_goals with_reducible rfl)
          simp only [Act.put, List.setIfInBounds_toArray, List.set_cons_zero, List.set_cons_succ]
      first
        | refine held_skip (i := 4) (d := some 65) rfl rfl (by kernel_rfl) (by kernel_rfl) (by kernel_rfl) (fun _ _ _ h => h) hH ?_ ?_
          · rfl
          simp only [Act.put, List.setIfInBounds_toArray, List.set_cons_zero, List.set_cons_succ]
        | refine held_take (i := 4) (v := ?_) (d := some 65) rfl rfl (by kernel_rfl) (by kernel_rfl) (by kernel_rfl) (fun _ _ _ h => h) hH ⟨?_, fun w hSw => ?_⟩ ?_
          rotate_left 1
          · rfl
          · (go_simp; all_goals with_reducible rfl)
          simp only [Act.put, List.setIfInBounds_toArray, List.set_cons_zero, List.set_cons_succ]
      first
        | refine held_skip (i := 6) (d := some 67) rfl rfl (by kernel_rfl) (by kernel_rfl) (by kernel_rfl) (fun _ _ _ h => h) hH ?_ ?_
          · rfl
          simp only [Act.put, List.setIfInBounds_toArray, List.set_cons_zero, List.set_cons_succ]
        | refine held_take (i := 6) (v := ?_) (d := some 67) rfl rfl (by kernel_rfl) (by kernel_rfl) (by kernel_rfl) (fun _ _ _ h => h) hH ⟨?_, fun w hSw => ?_⟩ ?_
          rotate_left 1
          · rfl
          · (go_simp; all_goals with_reducible rfl)
          simp only [Act.put, List.setIfInBounds_toArray, List.set_cons_zero, List.set_cons_succ]
      first
        | refine held_skip (i := 7) (d := some 68) rfl rfl (by kernel_rfl) (by kernel_rfl) (by kernel_rfl) (fun _ _ _ h => h) hH ?_ ?_
          · rfl
          simp only [Act.put, List.setIfInBounds_toArray, List.set_cons_zero, List.set_cons_succ]
        | refine held_take (i := 7) (v := ?_) (d := some 68) rfl rfl (by kernel_rfl) (by kernel_rfl) (by kernel_rfl) (fun _ _ _ h => h) hH ⟨?_, fun w hSw => ?_⟩ ?_
          rotate_left 1
          · rfl
          · obtain ⟨x0, x1, x2, x3⟩ := hSw
            (go_simp; all_goals with_reducible rfl)
          simp only [Act.put, List.setIfInBounds_toArray, List.set_cons_zero, List.set_cons_succ]
      first
        | refine held_skip (i := 8) (d := some 69) rfl rfl (by kernel_rfl) (by kernel_rfl) (by kernel_rfl) (fun _ _ _ h => h) hH ?_ ?_
          · rfl
          simp only [Act.put, List.setIfInBounds_toArray, List.set_cons_zero, List.set_cons_succ]
        | refine held_take (i := 8) (v := ?_) (d := some 69) rfl rfl (by kernel_rfl) (by kernel_rfl) (by kernel_rfl) (fun _ _ _ h => h) hH ⟨?_, fun w hSw => ?_⟩ ?_
          rotate_left 1
          · rfl
          · (go_simp; all_goals with_reducible rfl)
          simp only [Act.put, List.setIfInBounds_toArray, List.set_cons_zero, List.set_cons_succ]
      first
        | refine held_skip (i := 5) (d := some 66) rfl rfl (by kernel_rfl) (by kernel_rfl) (by kernel_rfl) (fun _ _ _ h => h) hH ?_ ?_
          · rfl
          simp only [Act.put, List.setIfInBounds_toArray, List.set_cons_zero, List.set_cons_succ]
        | refine held_step (i := 5) rfl (by kernel_rfl) ?_ (fun K hK => ?_)
          · rfl
          clear hH
          go_simp
          refine (HSR.out 9 _ HB5.out).mono ?_
          intro e w6 hf6
          obtain ⟨A6, c6, l6, rfl, -, hl6, hfd6, hsy6, hb6⟩ := found_len hf6
          have HB6 := Lib.hid (HB5.out.trans (hb6.mono HB5.out.size))
          have HF6 := Lib.hid (And.intro hl6 (And.intro hfd6 hsy6))
          clear hb6 hl6 hfd6 hsy6 hf6
          have hH := four_cells (HLYC.out _ HB6.out).1
          refine hK _ _ hH ?_
          clear hK K
          simp only [List.setIfInBounds_toArray, List.set_cons_zero, List.set_cons_succ]
      first
        | refine held_skip (i := 9) (d := some 70) rfl rfl (by kernel_rfl) (by kernel_rfl) (by kernel_rfl) (fun _ _ _ h => h) hH ?_ ?_
          · rfl
          simp only [Act.put, List.setIfInBounds_toArray, List.set_cons_zero, List.set_cons_succ]
        | refine held_step (i := 9) rfl (by kernel_rfl) ?_ (fun K hK => ?_)
          · rfl
          clear hH
          go_simp
          refine (HRR.out 9 _ HB6.out).mono ?_
          intro e w7 hf7
          obtain ⟨A7, c7, l7, rfl, -, hl7, hfd7, hsy7, hb7⟩ := found_len hf7
          have HB7 := Lib.hid (HB6.out.trans (hb7.mono HB6.out.size))
          have HF7 := Lib.hid (And.intro hl7 (And.intro hfd7 hsy7))
          have HE7 := Lib.hid (eq_both HF6.out HF7.out hb7 c6 c7 (HFEW.out _))
          clear hb7 hl7 hfd7 hsy7 hf7
          have hH := four_cells (HLYC.out _ HB7.out).1
          refine hK _ _ hH ?_
          clear hK K
          simp only [List.setIfInBounds_toArray, List.set_cons_zero, List.set_cons_succ]
      first
        | refine held_skip (i := 10) (d := some 71) rfl rfl (by kernel_rfl) (by kernel_rfl) (by kernel_rfl) (fun _ _ _ h => h) hH ?_ ?_
          · rfl
          simp only [Act.put, List.setIfInBounds_toArray, List.set_cons_zero, List.set_cons_succ]
        | refine held_step (i := 10) rfl (by kernel_rfl) ?_ (fun K hK => ?_)
          · rfl
          clear hH
          go_simp
          refine (HE7.out).mono ?_
          rintro e w8 ⟨rfl, hb8⟩
          have HB8 := Lib.hid (HB7.out.trans (hb8.mono HB7.out.size))
          clear hb8
          have hH := four_cells (HLYC.out _ HB8.out).1
          refine hK _ _ hH ?_
          clear hK K
          simp only [List.setIfInBounds_toArray, List.set_cons_zero, List.set_cons_succ]
      refine held_take (i := 11) (v := ?_) (d := some 72) rfl rfl (by kernel_rfl) (by kernel_rfl) (by kernel_rfl) (fun _ _ _ h => h) hH ⟨?_, fun w hSw => ?_⟩ ?_
      rotate_left 1
      · rfl
      · (go_simp; all_goals with_reducible rfl)
      simp only [Act.put, List.setIfInBounds_toArray, List.set_cons_zero, List.set_cons_succ]
      refine held_take (i := 12) (v := ?_) (d := some 73) rfl rfl (by kernel_rfl) (by kernel_rfl) (by kernel_rfl) (fun _ _ _ h => h) hH ⟨?_, fun w hSw => ?_⟩ ?_
      rotate_left 1
      · rfl
      · (go_simp; all_goals with_reducible rfl)
      simp only [Act.put, List.setIfInBounds_toArray, List.set_cons_zero, List.set_cons_succ]
      first
        | refine held_skip (i := 13) (d := some 74) rfl rfl (by kernel_rfl) (by kernel_rfl) (by kernel_rfl) (fun _ _ _ h => h) hH ?_ ?_
          · rfl
          simp only [Act.put, List.setIfInBounds_toArray, List.set_cons_zero, List.set_cons_succ]
        | refine held_take (i := 13) (v := ?_) (d := some 74) rfl rfl (by kernel_rfl) (by kernel_rfl) (by kernel_rfl) (fun _ _ _ h => h) hH ⟨?_, fun w hSw => ?_⟩ ?_
          rotate_left 1
          · rfl
          · (go_simp; all_goals with_reducible rfl)
          simp only [Act.put, List.setIfInBounds_toArray, List.set_cons_zero, List.set_cons_succ]
      first
        | refine held_skip (i := 14) (d := some 75) rfl rfl (by kernel_rfl) (by kernel_rfl) (by kernel_rfl) (fun _ _ _ h => h) hH ?_ ?_
          · rfl
          simp only [Act.put, List.setIfInBounds_toArray, List.set_cons_zero, List.set_cons_succ]
        | refine held_take (i := 14) (v := ?_) (d := some 75) rfl rfl (by kernel_rfl) (by kernel_rfl) (by kernel_rfl) (fun _ _ _ h => h) hH ⟨?_, fun w hSw => ?_⟩ ?_
          rotate_left 1
          · rfl
          · obtain ⟨x0, x1, x2, x3⟩ := hSw
            (go_simp; all_goals with_reducible rfl)
          simp only [Act.put, List.setIfInBounds_toArray, List.set_cons_zero, List.set_cons_succ]
      first
        | refine held_skip (i := 15) (d := some 76) rfl rfl (by kernel_rfl) (by kernel_rfl) (by kernel_rfl) (fun _ _ _ h => h) hH ?_ ?_
          · rfl
          simp only [Act.put, List.setIfInBounds_toArray, List.set_cons_zero, List.set_cons_succ]
        | refine held_take (i := 15) (v := ?_) (d := some 76) rfl rfl (by kernel_rfl) (by kernel_rfl) (by kernel_rfl) (fun _ _ _ h => h) hH ⟨?_, fun w hSw => ?_⟩ ?_
          rotate_left 1
          · rfl
          · (go_simp; all_goals with_reducible rfl)
          simp only [Act.put, List.setIfInBounds_toArray, List.set_cons_zero, List.set_cons_succ]
      first
        | refine held_skip (i := 17) (d := some 78) rfl rfl (by kernel_rfl) (by kernel_rfl) (by kernel_rfl) (fun _ _ _ h => h) hH ?_ ?_
          · rfl
          simp only [Act.put, List.setIfInBounds_toArray, List.set_cons_zero, List.set_cons_succ]
        | refine held_take (i := 17) (v := ?_) (d := some 78) rfl rfl (by kernel_rfl) (by kernel_rfl) (by kernel_rfl) (fun _ _ _ h => h) hH ⟨?_, fun w hSw => ?_⟩ ?_
          rotate_left 1
          · rfl
          · (go_simp; all_goals with_reducible rfl)
          simp only [Act.put, List.setIfInBounds_toArray, List.set_cons_zero, List.set_cons_succ]
      first
        | refine held_skip (i := 18) (d := some 79) rfl rfl (by kernel_rfl) (by kernel_rfl) (by kernel_rfl) (fun _ _ _ h => h) hH ?_ ?_
          · rfl
          simp only [Act.put, List.setIfInBounds_toArray, List.set_cons_zero, List.set_cons_succ]
        | refine held_take (i := 18) (v := ?_) (d := some 79) rfl rfl (by kernel_rfl) (by kernel_rfl) (by kernel_rfl) (fun _ _ _ h => h) hH ⟨?_, fun w hSw => ?_⟩ ?_
          rotate_left 1
          · rfl
          · obtain ⟨x0, x1, x2, x3⟩ := hSw
            (go_simp; all_goals with_reducible rfl)
          simp only [Act.put, List.setIfInBounds_toArray, List.set_cons_zero, List.set_cons_succ]
      first
        | refine held_skip (i := 19) (d := some 80) rfl rfl (by kernel_rfl) (by kernel_rfl) (by kernel_rfl) (fun _ _ _ h => h) hH ?_ ?_
          · rfl
          simp only [Act.put, List.setIfInBounds_toArray, List.set_cons_zero, List.set_cons_succ]
        | refine held_take (i := 19) (v := ?_) (d := some 80) rfl rfl (by kernel_rfl) (by kernel_rfl) (by kernel_rfl) (fun _ _ _ h => h) hH ⟨?_, fun w hSw => ?_⟩ ?_
          rotate_left 1
          · rfl
          · (go_simp; all_goals with_reducible rfl)
          simp only [Act.put, List.setIfInBounds_toArray, List.set_cons_zero, List.set_cons_succ]
      first
        | refine held_skip (i := 16) (d := some 77) rfl rfl (by kernel_rfl) (by kernel_rfl) (by kernel_rfl) (fun _ _ _ h => h) hH ?_ ?_
          · rfl
          simp only [Act.put, List.setIfInBounds_toArray, List.set_cons_zero, List.set_cons_succ]
        | refine held_step (i := 16) rfl (by kernel_rfl) ?_ (fun K hK => ?_)
          · rfl
          clear hH
          go_simp
          refine (HSR.out ss _ HB8.out).mono ?_
          intro e w9 hf9
          obtain ⟨A9, c9, l9, rfl, -, hl9, hfd9, hsy9, hb9⟩ := found_len hf9
          have HB9 := Lib.hid (HB8.out.trans (hb9.mono HB8.out.size))
          have HF9 := Lib.hid (And.intro hl9 (And.intro hfd9 hsy9))
          clear hb9 hl9 hfd9 hsy9 hf9
          have hH := four_cells (HLYC.out _ HB9.out).1
          refine hK _ _ hH ?_
          clear hK K
          simp only [List.setIfInBounds_toArray, List.set_cons_zero, List.set_cons_succ]
      first
        | refine held_skip (i := 20) (d := some 81) rfl rfl (by kernel_rfl) (by kernel_rfl) (by kernel_rfl) (fun _ _ _ h => h) hH ?_ ?_
          · rfl
          simp only [Act.put, List.setIfInBounds_toArray, List.set_cons_zero, List.set_cons_succ]
        | refine held_step (i := 20) rfl (by kernel_rfl) ?_ (fun K hK => ?_)
          · rfl
          clear hH
          go_simp
          refine (HRR.out ss _ HB9.out).mono ?_
          intro e w10 hf10
          obtain ⟨A10, c10, l10, rfl, -, hl10, hfd10, hsy10, hb10⟩ := found_len hf10
          have HB10 := Lib.hid (HB9.out.trans (hb10.mono HB9.out.size))
          have HF10 := Lib.hid (And.intro hl10 (And.intro hfd10 hsy10))
          have HE10 := Lib.hid (eq_both HF9.out HF10.out hb10 c9 c10 (HFEW.out _))
          clear hb10 hl10 hfd10 hsy10 hf10
          have hH := four_cells (HLYC.out _ HB10.out).1
          refine hK _ _ hH ?_
          clear hK K
          simp only [List.setIfInBounds_toArray, List.set_cons_zero, List.set_cons_succ]
      first
        | refine held_skip (i := 21) (d := some 82) rfl rfl (by kernel_rfl) (by kernel_rfl) (by kernel_rfl) (fun _ _ _ h => h) hH ?_ ?_
          · rfl
          simp only [Act.put, List.setIfInBounds_toArray, List.set_cons_zero, List.set_cons_succ]
        | refine held_step (i := 21) rfl (by kernel_rfl) ?_ (fun K hK => ?_)
          · rfl
          clear hH
          go_simp
          refine (HE10.out).mono ?_
          rintro e w11 ⟨rfl, hb11⟩
          have HB11 := Lib.hid (HB10.out.trans (hb11.mono HB10.out.size))
          clear hb11
          have hH := four_cells (HLYC.out _ HB11.out).1
          refine hK _ _ hH ?_
          clear hK K
          simp only [List.setIfInBounds_toArray, List.set_cons_zero, List.set_cons_succ]
      refine held_take (i := 22) (v := ?_) (d := some 83) rfl rfl (by kernel_rfl) (by kernel_rfl) (by kernel_rfl) (fun _ _ _ h => h) hH ⟨?_, fun w hSw => ?_⟩ ?_
      rotate_left 1
      · rfl
      · (go_simp; all_goals with_reducible rfl)
      simp only [Act.put, List.setIfInBounds_toArray, List.set_cons_zero, List.set_cons_succ]
      refine held_take (i := 23) (v := ?_) (d := some 2) rfl rfl (by kernel_rfl) (by kernel_rfl) (by kernel_rfl) (fun _ _ _ h => h) hH ⟨?_, fun w hSw => ?_⟩ ?_
      rotate_left 1
      · rfl
      · (go_simp; all_goals with_reducible rfl)
      simp only [Act.put, List.setIfInBounds_toArray, List.set_cons_zero, List.set_cons_succ]
      refine wpAnyH_done (by kernel_rfl) ?_ _
      go_wp2_with fail
      go_ret
      exact ⟨rfl, (HLYC.out _ HB11.out).2⟩
end Go.Proofs.YtgnbmmceffolmaaGreatDoor
