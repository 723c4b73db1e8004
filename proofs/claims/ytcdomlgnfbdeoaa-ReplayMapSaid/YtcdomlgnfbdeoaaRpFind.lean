/-
  The reference's Find: all records in a row, looked at from the last one on.
-/
import Derived.Test.YtcdomlgnfbdeoaaRpMem
import Derived.Test.YtcdomlgnfbdeoaaTbPr
import Derived.BigQuiet
import Derived.StillTailTactics
set_option maxRecDepth 100000
namespace Go.Proofs.Ytcdomlgnfbdeoaa
open Go.RowKit
theorem info_rec : (Try.prog.info? 74).map (fun i => (i.zero, i.size, i.bytes)) = some (some (.agg (rfS.cs Rf0).toArray), rfS.m, 88) := by kernel_rfl
theorem rfs_at {w : World} {lo B : Nat} {ad : Addr} {l : List Rf} (h : Arr rfS w lo B (some ad) l) (k : Nat) (hk : k < l.length) (r : Rf) (e : l.getD k Rf0 = r) :
    w.cell? (ad.add (k * 7)) = some (.int .i64 r.seq) ∧ w.cell? ⟨(ad.add (k * 7)).block, (ad.add (k * 7)).off + 1, none⟩ = some (.int .i64 r.fd.off) ∧ w.cell? ⟨(ad.add (k * 7)).block, (ad.add (k * 7)).off + 2, none⟩ = some (.int .i64 r.fd.len) ∧ w.cell? ⟨(ad.add (k * 7)).block, (ad.add (k * 7)).off + 3, none⟩ = some (.int .i64 r.fd.rd.kd) ∧ w.cell? ⟨(ad.add (k * 7)).block, (ad.add (k * 7)).off + 4, none⟩ = some (.slice r.fd.rd.A1 r.fd.rd.n1 r.fd.rd.c1) ∧ w.cell? ⟨(ad.add (k * 7)).block, (ad.add (k * 7)).off + 5, none⟩ = some (.slice r.fd.rd.A2 r.fd.rd.n2 r.fd.rd.c2) ∧ w.cell? ⟨(ad.add (k * 7)).block, (ad.add (k * 7)).off + 6, none⟩ = some (.int .i64 r.fd.rd.x) := by
  have h7 : ∀ j v, (rfS.cs r)[j]? = some v → w.cell? (ad.add (k * 7 + j)) = some v := fun j v hv => h.cell k hk j v (by rw [show l.getD k rfS.z = r from e]; exact hv)
  have g : ∀ i, 0 < i → ∀ v, (rfS.cs r)[i]? = some v → w.cell? ⟨(ad.add (k * 7)).block, (ad.add (k * 7)).off + i, none⟩ = some v := fun i hi v hv => by
    have := h7 i v hv
    rwa [at_field _ _ _ hi] at this
  exact ⟨h7 0 _ rfl, g 1 (by decide) _ rfl, g 2 (by decide) _ rfl, g 3 (by decide) _ rfl, g 4 (by decide) _ rfl, g 5 (by decide) _ rfl, g 6 (by decide) _ rfl⟩
theorem blk_next {w w1 : World} {C g : Nat} {o : Obj} (h : w.heap[g]? = some o) (k : Below C w w1) (hg : g < C) : w1.heap[g]? = some o := (k.block g hg).trans h
theorem pair_cells {w : World} {g : Nat} {a b : Value} {t : TypeId} (h : w.heap[g]? = some (.cells #[a, b] t (0, 0))) : w.cell? ⟨g, 0, none⟩ = some a ∧ w.cell? ⟨g, 1, none⟩ = some b := by
  refine ⟨?_, ?_⟩ <;> (rw [cell_of_row _ _ _ _ _ _ h]; rfl)
/-- What Find answers. -/
def FindIs (l : List Bt) (k : ByteArray) (now : Int) (w : World) (e : Ending) (w' : World) : Prop :=
  (∃ x : Tb.En, Rp.out now (Rp.fin (fsOf l)) k = some x ∧ x.hit = false ∧ e = .returned (.tuple #[.agg #[.int .i64 x.seq, .int .i64 x.off, .int .i64 x.len, .int .i64 x.exp, .bool false], .bool true]) ∧ Below w.heap.size w w') ∨
  (Rp.out now (Rp.fin (fsOf l)) k = none ∧ ∃ a0 a1 a2 a3, e = .returned (.tuple #[.agg #[.int .i64 a0, .int .i64 a1, .int .i64 a2, .int .i64 a3, .bool false], .bool false]) ∧ Below w.heap.size w w')
set_option maxHeartbeats 12000000 in
theorem reffind_any (A : Option Addr) (B n cap : Nat) (l : List Bt) (k : ByteArray) (now : Int) (w : World) (hB : B ≤ w.heap.size) (hn : Hid (l.length = n)) (hn2 : n ≤ 1000) (hf : Hid (∀ b ∈ l, b.fds.length ≤ 100)) (hb : Hid (BtsAt w B A l)) :
    Calls Try.prog 19 #[.slice A n cap, .string k, .int .i64 now] w (FindIs l k now w) := by
  have HS0 := Lib.hid (sd_new w #[.int .i64 0, .int .i64 0, .int .i64 0, .int .i64 0, .bool false] 36)
  go_enter Try.func19, Try.ntmps19
  go_upto_region 1 with fail
  generalize w.alloc (.cells #[.int .i64 0, .int .i64 0, .int .i64 0, .int .i64 0, .bool false] 36) = w0 at *
  go_upto_block 0 with fail
  go_cut [8] (fun v wx => Hid (SRow (fun k => w.heap.size < k) 74 7 wx v (rsOf l).length (rfS.flat (rsOf l))) ∧ Hid (Sd w w.heap.size (.cells #[.int .i64 0, .int .i64 0, .int .i64 0, .int .i64 0, .bool false] 36 (0, 0)) wx))
  case first =>
    have HBIG : Hid (∀ K i, i ≤ 100 → (upto l K i).length ≤ 200000) := fun K i hi => by
      have := upto_len hf.out K hi
      rw [hn.out] at this
      omega
    have HALL : Hid (upto l n 0 = rsOf l) := by
      have := upto_all l
      rwa [hn.out] at this
    go_wp2_with fail
    go_loopw [8, 18] (fun v iv wr => ∃ K : Nat, K ≤ n ∧ iv = .int .i64 (K : Int) ∧ Hid (SRow (fun k => w.heap.size < k) 74 7 wr v (upto l K 0).length (rfS.flat (upto l K 0))) ∧ Hid (Sd w w.heap.size (.cells #[.int .i64 0, .int .i64 0, .int .i64 0, .int .i64 0, .bool false] 36 (0, 0)) wr)) (fun _ i _ => n - (intOf i).toNat)
    case atStart => exact ⟨0, Nat.zero_le _, rfl, by rw [upto_zero]; exact SRow.nil, HS0⟩
    case round =>
      clear HS0
      obtain ⟨K, hK, rfl, HR, HS⟩ := hrel
      generalize wr = wo at *
      by_cases hlt : K < n
      · obtain ⟨ad, rfl⟩ := hb.out.1.some (k := K) (by rw [hn.out]; exact hlt)
        obtain ⟨⟨s, bA, bn, bc, fds⟩, hbt⟩ : ∃ b, l.getD K Bt0 = b := ⟨_, rfl⟩
        obtain ⟨m0, m1⟩ := bts_at (hb.out.1.below HS.out.2 hB) K (by rw [hn.out]; exact hlt) _ hbt
        simp only at m0 m1
        have hmem : (⟨s, bA, bn, bc, fds⟩ : Bt) ∈ l := getD_mem (by rw [hn.out]; exact hlt) hbt
        obtain ⟨hsb, hlb, hfd⟩ := hb.out.2 _ hmem
        simp only at hsb hlb hfd
        have hbn : bn ≤ 100 := by rw [← hlb]; exact hf.out _ hmem
        have HBT := Lib.hid hbt
        have HFD := Lib.hid hfd
        have HLB := Lib.hid hlb
        clear hbt hmem hsb hlb hfd
        go_upto_region 5 with fail
        have HX := Lib.hid (heap_alloc_new wo (.cells #[.int .i64 s, .slice bA bn bc] 46))
        have HRI : Hid (SRow (fun k => w.heap.size < k ∧ k ≠ wo.heap.size) 74 7 (wo.alloc (.cells #[.int .i64 s, .slice bA bn bc] 46)) _ (upto l K 0).length (rfS.flat (upto l K 0))) := (HR.out.mono (T := fun k => w.heap.size < k ∧ k ≠ wo.heap.size) fun k hk h => ⟨h, Nat.ne_of_lt hk⟩).new ((Below.refl _ wo).alloc (Nat.le_refl _) _)
        have HSA := Lib.hid (HS.out.next ((Below.refl _ wo).alloc (Nat.le_refl _) (.cells #[.int .i64 s, .slice bA bn bc] 46)) rfl rfl rfl rfl)
        have HLO := Lib.hid HS.out.lt
        clear HR HS m0 m1
        generalize wo.alloc (.cells #[.int .i64 s, .slice bA bn bc] 46) = wa at *
        obtain ⟨z0, z1⟩ := pair_cells HX.out
        go_wp2_with fail
        go_loopw [8, 25] (fun v iv wr => ∃ i : Nat, i ≤ bn ∧ iv = .int .i64 (i : Int) ∧ Hid (SRow (fun k => w.heap.size < k ∧ k ≠ wo.heap.size) 74 7 wr v (upto l K i).length (rfS.flat (upto l K i))) ∧ Hid (Sd w w.heap.size (.cells #[.int .i64 0, .int .i64 0, .int .i64 0, .int .i64 0, .bool false] 36 (0, 0)) wr) ∧ Hid (wr.heap[wo.heap.size]? = some (.cells #[.int .i64 s, .slice bA bn bc] 46 (0, 0)))) (fun _ i _ => bn - (intOf i).toNat)
        case atStart => exact ⟨0, Nat.zero_le _, rfl, HRI, HSA, HX⟩
        case round =>
          clear HRI HSA HX z0 z1
          obtain ⟨i, hi, rfl, HR, HS, HX⟩ := hrel
          generalize wr = wq at *
          by_cases hlt2 : i < bn
          · obtain ⟨bd, rfl⟩ := HFD.out.1.some (k := i) (by rw [HLB.out]; exact hlt2)
            obtain ⟨⟨f0, f1, ⟨kd, x, A1, A2, n1, c1, n2, c2, ky, vl⟩⟩, hfe⟩ : ∃ f, fds.getD i Fd0 = f := ⟨_, rfl⟩
            obtain ⟨m0, m1, m2, m3, m4, m5⟩ := fds_at (HFD.out.1.below HS.out.2 hB) i (by rw [HLB.out]; exact hlt2) _ hfe
            simp only at m0 m1 m2 m3 m4 m5
            have HNX := Lib.hid (upto_next HBT.out (by rw [HLB.out]; exact hlt2) hfe)
            simp only at HNX
            have hbig := HBIG.out K i (by omega)
            have HLX : Hid (wo.heap.size < wq.heap.size) := (Array.getElem?_eq_some_iff.1 HX.out).1
            clear hfe
            obtain ⟨v0, hv0⟩ : ∃ A2 c2, u8 = .slice A2 (upto l K i).length c2 := by
              obtain ⟨A3, c3, e, -, -⟩ := ARow.open_ (S := rfS) HR.out.1
              exact ⟨A3, c3, e⟩
            obtain ⟨v1, rfl⟩ := hv0
            go_upto_region 8 with fail
            have HXA := Lib.hid ((heap_alloc_old wq (.cells #[.int .i64 f0, .int .i64 f1, .int .i64 kd, .slice A1 n1 c1, .slice A2 n2 c2, .int .i64 x] 44) HLX.out).trans HX.out)
            have HFA := Lib.hid (heap_alloc_new wq (.cells #[.int .i64 f0, .int .i64 f1, .int .i64 kd, .slice A1 n1 c1, .slice A2 n2 c2, .int .i64 x] 44))
            have HRA := Lib.hid (HR.out.new ((Below.refl _ wq).alloc (Nat.le_refl _) (.cells #[.int .i64 f0, .int .i64 f1, .int .i64 kd, .slice A1 n1 c1, .slice A2 n2 c2, .int .i64 x] 44)))
            have HSA := Lib.hid (HS.out.next ((Below.refl _ wq).alloc (Nat.le_refl _) (.cells #[.int .i64 f0, .int .i64 f1, .int .i64 kd, .slice A1 n1 c1, .slice A2 n2 c2, .int .i64 x] 44)) rfl rfl rfl rfl)
            clear HR HS HX m0 m1 m2 m3 m4 m5
            generalize wq.alloc (.cells #[.int .i64 f0, .int .i64 f1, .int .i64 kd, .slice A1 n1 c1, .slice A2 n2 c2, .int .i64 x] 44) = wa2 at *
            obtain ⟨z0, z1⟩ := pair_cells HXA.out
            obtain ⟨y0, y1, y2, y3, y4, y5⟩ := six_cells HFA.out
            have HRB := Lib.hid (HRA.out.new ((Below.refl _ wa2).alloc (Nat.le_refl _) (.cells #[.int .i64 s, .int .i64 f0, .int .i64 f1, .int .i64 kd, .slice A1 n1 c1, .slice A2 n2 c2, .int .i64 x] 74)))
            have HSB := Lib.hid (HSA.out.next ((Below.refl _ wa2).alloc (Nat.le_refl _) (.cells #[.int .i64 s, .int .i64 f0, .int .i64 f1, .int .i64 kd, .slice A1 n1 c1, .slice A2 n2 c2, .int .i64 x] 74)) rfl rfl rfl rfl)
            have HGB : Hid ((wa2.alloc (.cells #[.int .i64 s, .int .i64 f0, .int .i64 f1, .int .i64 kd, .slice A1 n1 c1, .slice A2 n2 c2, .int .i64 x] 74)).heap[wa2.heap.size]? = some (.cells (rfS.cs ⟨s, f0, f1, kd, x, A1, A2, n1, c1, n2, c2, ky, vl⟩).toArray 74 (0, 0))) := heap_alloc_new _ _
            have HXB := Lib.hid ((heap_alloc_old wa2 (.cells #[.int .i64 s, .int .i64 f0, .int .i64 f1, .int .i64 kd, .slice A1 n1 c1, .slice A2 n2 c2, .int .i64 x] 74) (Array.getElem?_eq_some_iff.1 HXA.out).1).trans HXA.out)
            have HLS := Lib.hid HSB.out.lt
            clear HRA HSA HXA HFA
            have HWO : Hid (w.heap.size < wo.heap.size ∧ wo.heap.size < (wa2.alloc (.cells #[.int .i64 s, .int .i64 f0, .int .i64 f1, .int .i64 kd, .slice A1 n1 c1, .slice A2 n2 c2, .int .i64 x] 74)).heap.size ∧ w.heap.size ≤ (wa2.alloc (.cells #[.int .i64 s, .int .i64 f0, .int .i64 f1, .int .i64 kd, .slice A1 n1 c1, .slice A2 n2 c2, .int .i64 x] 74)).heap.size) := ⟨HLO.out, (Array.getElem?_eq_some_iff.1 HXB.out).1, Nat.le_of_lt HLS.out⟩
            go_wp2_with (at_builtin; refine append_one (Sh := rfS) (by rfl) (.tmp 29) (.tmp 34) 72 rfl Try.underlying72 info_rec rfl _ _ (upto l K i) rfl HRB.out wa2.heap.size 1 ⟨s, f0, f1, kd, x, A1, A2, n1, c1, n2, c2, ky, vl⟩ rfl HGB.out (by omega) (by omega) ?_; intro v4 w4 hr4 hk4)
            have HR4 : Hid (SRow (fun k => w.heap.size < k ∧ k ≠ wo.heap.size) 74 7 w4 v4 (upto l K (i + 1)).length (rfS.flat (upto l K (i + 1)))) := by
              rw [HNX.out, List.length_append]
              exact hr4.mono fun k _ h => by
                rcases h with h | h
                · exact h
                · exact ⟨by have := HWO.out; omega, by have := HWO.out; omega⟩
            have HS4 : Hid (Sd w w.heap.size (.cells #[.int .i64 0, .int .i64 0, .int .i64 0, .int .i64 0, .bool false] 36 (0, 0)) w4) := ⟨(hk4.block _ HLS.out fun h => Nat.lt_irrefl _ h.1).trans HSB.out.1, HSB.out.2.trans (hk4.below HWO.out.2.2 fun k h => Nat.le_of_lt h.1)⟩
            have HX4 := Lib.hid ((hk4.block _ HWO.out.2.1 fun h => h.2 rfl).trans HXB.out)
            clear hr4 hk4 HRB HGB HSB HXB HLS
            go_wp2_with fail
            exact ⟨⟨i + 1, by omega, by go_num, HR4.out, HS4.out, HX4.out⟩, by simp [intOf]; omega⟩
          · obtain rfl : bn = i := by omega
            have HR5 : Hid (SRow (fun k => w.heap.size < k) 74 7 wq u8 (upto l (K + 1) 0).length (rfS.flat (upto l (K + 1) 0))) := by
              have e := upto_end (by rw [hn.out]; exact hlt) HBT.out
              simp only at e
              rw [HLB.out] at e
              rw [← e]
              exact HR.out.mono fun k _ h => h.1
            go_wp2_with fail
            exact ⟨⟨K + 1, by omega, by go_num, HR5.out, HS.out⟩, by simp [intOf]; omega⟩
      · obtain rfl : n = K := by omega
        go_wp2_with fail
        go_meet
        exact ⟨by rw [← HALL.out]; exact HR.out, HS⟩
  case rest =>
    obtain ⟨HR, HS⟩ := hcut
    clear HS0
    generalize wc = w1 at *
    obtain ⟨A1', c1', rfl, hs1, ha1⟩ := ARow.open_ (S := rfS) HR.out.1
    have HA := Lib.hid ha1
    have HH : Hid (∀ r ∈ rsOf l, r.fd.rd.here w B) := rs_here hb.out
    have hbig : (rsOf l).length ≤ 100000 := by
      have := rsOf_len hf.out
      rw [hn.out] at this
      omega
    have hc1 := hs1.2.1
    generalize hrs : rsOf l = rs at *
    have HRS := Lib.hid hrs
    clear hrs
    obtain ⟨N, hN⟩ : ∃ N, rs.length = N := ⟨_, rfl⟩
    rw [hN] at hbig hc1
    rw [hN]
    have HLN := Lib.hid hN
    have HTK : Hid (Rp.fin ((rs.map Rf.f).take N) k = Rp.fin (rs.map Rf.f) k) := by
      show _ = _
      rw [List.take_of_length_le (by rw [List.length_map, HLN.out]; exact Nat.le_refl _)]
    clear hN HR hs1 ha1
    have q1 : wrap64 ((N : Int) - 1) = (N : Int) - 1 := by unfold wrap64; omega
    go_wp2_with fail
    go_loopw [13] (fun iv wr => ∃ j : Nat, j ≤ N ∧ iv = .int .i64 ((j : Int) - 1) ∧ Hid (Rp.fin ((rs.map Rf.f).take j) k = Rp.fin (rs.map Rf.f) k) ∧ Hid (Below w1.heap.size w1 wr)) (fun i _ => (intOf i + 1).toNat)
    case atStart => exact ⟨N, Nat.le_refl _, rfl, HTK, Below.refl _ _⟩
    case round =>
      clear HTK
      obtain ⟨j, hj, rfl, HT, HB⟩ := hrel
      generalize wr = wo at *
      rcases Nat.eq_zero_or_pos j with h0 | h0
      · subst h0
        have HSZ : Hid (Sd w w.heap.size (.cells #[.int .i64 0, .int .i64 0, .int .i64 0, .int .i64 0, .bool false] 36 (0, 0)) wo) := ⟨blk_next HS.out.1 HB.out HS.out.lt, HS.out.2.trans (HB.out.mono HS.out.2.size)⟩
        have HEZ := Lib.hid HSZ.out.1
        have HBZ := Lib.hid HSZ.out.2
        have hz0 : ((0 : Nat) : Int) - 1 = -1 := by omega
        rw [hz0]
        obtain ⟨g0, g1, g2, g3, g4⟩ := five_frozen HEZ.out
        obtain ⟨e0, e1, e2, e3, e4⟩ := five_cells HEZ.out
        go_wp2_with fail
        refine bodyPost_ret (results_row2 rfl _ _ w.heap.size _ _ (0, 0) _ rfl (stored5 HEZ.out) Try.underlying36 rfl (by kernel_rfl)) rfl ?_
        refine .inr ⟨?_, 0, 0, 0, 0, rfl, HBZ.out.trans ((five_zero wo w.heap.size _ _ _ _ _ (rfl : (fun k => k = w.heap.size) w.heap.size)).below HBZ.out.size fun k e => by rw [e]; exact Nat.le_refl _)⟩
        unfold Rp.out fsOf
        rw [HRS.out, ← HT.out]
        rfl
      · obtain ⟨m, rfl⟩ : ∃ m, j = m + 1 := ⟨j - 1, by omega⟩
        have hmi : ((m + 1 : Nat) : Int) - 1 = (m : Int) := by omega
        rw [hmi]
        obtain ⟨ad, rfl⟩ := HA.out.some (k := m) (by rw [HLN.out]; omega)
        obtain ⟨⟨sq, f0, f1, ⟨kd, x, A1, A2, n1, c1, n2, c2, ky, vl⟩⟩, hre⟩ : ∃ r, rs.getD m Rf0 = r := ⟨_, rfl⟩
        obtain ⟨m0, m1, m2, m3, m4, m5, m6⟩ := rfs_at (HA.out.below HB.out (Nat.le_refl _)) m (by rw [HLN.out]; omega) _ hre
        simp only at m0 m1 m2 m3 m4 m5 m6
        obtain ⟨⟨hsl, hlk, hkb⟩, -⟩ := HH.out _ (getD_mem (by rw [HLN.out]; omega) hre)
        simp only at hsl hlk hkb
        have HFT : Hid (Rp.fin ((rs.map Rf.f).take (m + 1)) k = Rp.step (Rp.fin ((rs.map Rf.f).take m)) ⟨sq, f0, f1, kd, strOf ky, x⟩ k) := by
          have h := Rp.fin_take (l := rs.map Rf.f) (i := m) (by rw [List.length_map, HLN.out]; omega) k
          have e : (rs.map Rf.f).getD m Rp.F0 = ⟨sq, f0, f1, kd, strOf ky, x⟩ := by
            rw [List.getD_eq_getElem?_getD, List.getElem?_map, List.getElem?_eq_getElem (by rw [HLN.out]; omega)]
            have : rs[m]'(by rw [HLN.out]; omega) = ⟨sq, f0, f1, ⟨kd, x, A1, A2, n1, c1, n2, c2, ky, vl⟩⟩ := by
              rw [← hre, List.getD_eq_getElem?_getD, List.getElem?_eq_getElem (by rw [HLN.out]; omega)]; rfl
            rw [this]
            rfl
          rw [e] at h
          exact h
        have hcv : ∀ W, Below w1.heap.size w1 W → (convert 40 9 (.slice A1 n1 c1)).run Try.prog W = .ok (.string (strOf ky)) W := fun W hW => conv_bytes A1 B n1 c1 ky W (fun e => (hsl.1 e).2) hlk ((hkb.below HS.out.2 hB).below hW (Nat.le_trans hB HS.out.2.size))
        have HCV := Lib.hid hcv
        have HRE := Lib.hid hre
        clear hre hsl hlk hkb hmi hcv
        go_upto_region 15 with fail
        have HXA := Lib.hid (heap_alloc_new wo (.cells #[.int .i64 kd, .slice A1 n1 c1, .slice A2 n2 c2, .int .i64 x] 42))
        have HBA : Hid (Below wo.heap.size wo (wo.alloc (.cells #[.int .i64 kd, .slice A1 n1 c1, .slice A2 n2 c2, .int .i64 x] 42))) := (Below.refl _ wo).alloc (Nat.le_refl _) _
        have HBN : Hid (Below w1.heap.size w1 (wo.alloc (.cells #[.int .i64 kd, .slice A1 n1 c1, .slice A2 n2 c2, .int .i64 x] 42))) := HB.out.trans (HBA.out.mono HB.out.size)
        have HSZ : Hid (Sd w w.heap.size (.cells #[.int .i64 0, .int .i64 0, .int .i64 0, .int .i64 0, .bool false] 36 (0, 0)) (wo.alloc (.cells #[.int .i64 kd, .slice A1 n1 c1, .slice A2 n2 c2, .int .i64 x] 42))) := ⟨blk_next HS.out.1 HBN.out HS.out.lt, HS.out.2.trans (HBN.out.mono HS.out.2.size)⟩
        have HAW : Hid (Arr rfS (wo.alloc (.cells #[.int .i64 kd, .slice A1 n1 c1, .slice A2 n2 c2, .int .i64 x] 42)) 0 w1.heap.size (some ad) rs) := HA.out.below HBN.out (Nat.le_refl _)
        clear m0 m1 m2 m3 m4 m5 m6
        generalize wo.alloc (.cells #[.int .i64 kd, .slice A1 n1 c1, .slice A2 n2 c2, .int .i64 x] 42) = wa at *
        have HEZ := Lib.hid HSZ.out.1
        have HBZ := Lib.hid HSZ.out.2
        have cv := HCV.out wa HBN.out
        obtain ⟨y0, y1, y2, y3⟩ := four_cells HXA.out
        have q2 : wrap64 ((m : Int) - 1) = (m : Int) - 1 := by unfold wrap64; omega
        have hky := key_eq (strOf ky) k
        clear HBA
        by_cases h3 : kd = 3
        · have e3 : (kd == 3) = true := beq_iff_eq.2 h3
          obtain ⟨g0, g1, g2, g3, g4⟩ := five_frozen HEZ.out
          obtain ⟨e0, e1, e2, e3, e4⟩ := five_cells HEZ.out
          go_wp2_with fail
          refine bodyPost_ret (results_row2 rfl _ _ w.heap.size _ _ (0, 0) _ rfl (stored5 HEZ.out) Try.underlying36 rfl (by kernel_rfl)) rfl ?_
          refine .inr ⟨?_, 0, 0, 0, 0, rfl, HBZ.out.trans ((five_zero wa w.heap.size _ _ _ _ _ (rfl : (fun k => k = w.heap.size) w.heap.size)).below HBZ.out.size fun k e => by rw [e]; exact Nat.le_refl _)⟩
          unfold Rp.out fsOf
          rw [HRS.out, ← HT.out]
          rw [HFT.out, Rp.step_flush h3]
          rfl
        · have e3 : (kd == 3) = false := beq_eq_false_iff_ne.2 h3
          by_cases hk : strOf ky = k
          · rw [decide_eq_true hk] at hky
            by_cases h2 : kd = 2
            · have e2' : (kd == 2) = true := beq_iff_eq.2 h2
              obtain ⟨g0, g1, g2, g3, g4⟩ := five_frozen HEZ.out
              obtain ⟨e0, e1, e2, e3, e4⟩ := five_cells HEZ.out
              go_wp2_with fail
              refine bodyPost_ret (results_row2 rfl _ _ w.heap.size _ _ (0, 0) _ rfl (stored5 HEZ.out) Try.underlying36 rfl (by kernel_rfl)) rfl ?_
              refine .inr ⟨?_, 0, 0, 0, 0, rfl, HBZ.out.trans ((five_zero wa w.heap.size _ _ _ _ _ (rfl : (fun k => k = w.heap.size) w.heap.size)).below HBZ.out.size fun k e => by rw [e]; exact Nat.le_refl _)⟩
              unfold Rp.out fsOf
              rw [HRS.out, ← HT.out]
              rw [HFT.out, ← hk]
              have := Rp.step_gone (H := Rp.fin ((rs.map Rf.f).take m)) (f := ⟨sq, f0, f1, kd, strOf ky, x⟩) h2
              simp only at this
              rw [this]
              rfl
            · have e2' : (kd == 2) = false := beq_eq_false_iff_ne.2 h2
              by_cases h1 : kd = 1
              · have e1' : (kd == 1) = true := beq_iff_eq.2 h1
                have HRW := Lib.hid HRE.out
                obtain ⟨m0, m1, m2, m3, m4, m5, m6⟩ := rfs_at HAW.out m (by rw [HLN.out]; omega) _ HRE.out
                simp only at m0 m1 m2 m3 m4 m5 m6
                have hmN : m < N := by omega
                have HAX : Hid (Arr rfS (wa.alloc (.cells #[.int .i64 0, .int .i64 0, .int .i64 0, .int .i64 0, .bool false] 36)) 0 w1.heap.size (some ad) rs) := HAW.out.below ((Below.refl _ wa).alloc (Nat.le_refl _) _) HBN.out.size
                obtain ⟨n0, n1', n2', n3, n4, n5, n6⟩ := rfs_at HAX.out m (by rw [HLN.out]; omega) _ HRE.out
                simp only at n0 n1' n2' n3 n4 n5 n6
                obtain ⟨x0, x1, x2, x3⟩ := four_cells ((heap_alloc_old wa (.cells #[.int .i64 0, .int .i64 0, .int .i64 0, .int .i64 0, .bool false] 36) (Array.getElem?_eq_some_iff.1 HXA.out).1).trans HXA.out)
                go_upto_region 18 with fail
                go_cut [15] (fun v wx => v = .pointer (some ⟨wa.heap.size, 0, none⟩) ∧ Hid (wx.heap[wa.heap.size]? = some (.cells #[.int .i64 sq, .int .i64 f0, .int .i64 f1, .int .i64 x, .bool false] 36 (0, 0))) ∧ Hid (Below wa.heap.size wa wx))
                case first =>
                  go_region
                  all_goals
                    go_wp2
                    go_meet
                    exact ⟨rfl, heap_alloc_new _ _, below_drawn ((Below.refl _ wa).alloc (Nat.le_refl _) _) 1⟩
                case rest =>
                  obtain ⟨rfl, HX5, HB5⟩ := hcut
                  generalize wc = w5 at *
                  have HVAL : Hid (Rp.fin (rs.map Rf.f) k = some ⟨sq, f0, f1, x, false⟩) := by
                    show _ = _
                    rw [← HT.out, HFT.out, ← hk]
                    exact Rp.step_value (H := Rp.fin ((rs.map Rf.f).take m)) (f := ⟨sq, f0, f1, kd, strOf ky, x⟩) h1
                  have HED : Hid (w5.drew.heap[w.heap.size]? = some (.cells #[.int .i64 0, .int .i64 0, .int .i64 0, .int .i64 0, .bool false] 36 (0, 0))) := blk_next HEZ.out (below_drawn HB5.out 1) HSZ.out.lt
                  have HBD : Hid (Below w.heap.size w w5.drew) := below_drawn (HBZ.out.trans (HB5.out.mono HBZ.out.size)) 1
                  obtain ⟨b0, b1, b2, b3, b4⟩ := five_cells HX5.out
                  have HE5 := Lib.hid (blk_next HEZ.out HB5.out HSZ.out.lt)
                  have hne : wa.heap.size ≠ w.heap.size := Nat.ne_of_gt HSZ.out.lt
                  have hne' : w.heap.size ≠ wa.heap.size := Nat.ne_of_lt HSZ.out.lt
                  obtain ⟨g0, g1, g2, g3, g4⟩ := five_frozen HE5.out
                  obtain ⟨e0, e1, e2, e3', e4⟩ := five_cells HE5.out
                  clear y0 y1 y2 y3 n0 n1' n2' n3 n4 n5 n6 x0 x1 x2 x3 m0 m1 m2 m3 m4 m5 m6 hky cv q1 q2
                  by_cases hx0 : x = 0
                  · have c0 : (x == 0) = true := beq_iff_eq.2 hx0
                    have HAL : Hid (Rp.alive now ⟨sq, f0, f1, x, false⟩ = true) := by
                      show _ = _
                      unfold Rp.alive
                      rw [decide_eq_true hx0]; rfl
                    clear hx0
                    go_upto_region 19 with fail
                    go_cut [7] (fun v wx => v = .bool true ∧ Hid (wx.heap[w.heap.size]? = some (.cells #[.int .i64 sq, .int .i64 f0, .int .i64 f1, .int .i64 x, .bool false] 36 (0, 0))) ∧ Hid (Below w.heap.size w wx))
                    case first =>
                      go_region
                      all_goals
                        go_wp2
                        go_meet
                        exact ⟨rfl, stored5 HED.out, HBD.out.trans ((five_zero w5.drew w.heap.size _ _ _ _ _ (rfl : (fun k => k = w.heap.size) w.heap.size)).below HBD.out.size fun k e => by rw [e]; exact Nat.le_refl _)⟩
                    case rest =>
                      obtain ⟨rfl, HE6, HB6⟩ := hcut
                      go_wp2_with fail
                      refine bodyPost_ret (results_row2 rfl _ _ w.heap.size _ _ (0, 0) _ rfl HE6.out Try.underlying36 rfl (by kernel_rfl)) rfl ?_
                      exact .inl ⟨⟨sq, f0, f1, x, false⟩, by
                        unfold fsOf
                        rw [HRS.out]
                        exact Rp.out_some.2 ⟨HVAL.out, HAL.out⟩, rfl, rfl, HB6.out⟩
                  · have c0 : (x == 0) = false := beq_eq_false_iff_ne.2 hx0
                    by_cases hx1 : now < x
                    · have c1' : decide (x > now) = true := decide_eq_true hx1
                      have c1'' : decide (now < x) = true := decide_eq_true hx1
                      have HAL : Hid (Rp.alive now ⟨sq, f0, f1, x, false⟩ = true) := by
                        show _ = _
                        unfold Rp.alive
                        rw [c1'', Bool.or_true]
                      go_upto_region 19 with fail
                      go_cut [7] (fun v wx => v = .bool true ∧ Hid (wx.heap[w.heap.size]? = some (.cells #[.int .i64 sq, .int .i64 f0, .int .i64 f1, .int .i64 x, .bool false] 36 (0, 0))) ∧ Hid (Below w.heap.size w wx))
                      case first =>
                        go_region
                        all_goals
                          go_wp2
                          go_meet
                          exact ⟨rfl, stored5 HED.out, HBD.out.trans ((five_zero w5.drew w.heap.size _ _ _ _ _ (rfl : (fun k => k = w.heap.size) w.heap.size)).below HBD.out.size fun k e => by rw [e]; exact Nat.le_refl _)⟩
                      case rest =>
                        obtain ⟨rfl, HE6, HB6⟩ := hcut
                        go_wp2_with fail
                        refine bodyPost_ret (results_row2 rfl _ _ w.heap.size _ _ (0, 0) _ rfl HE6.out Try.underlying36 rfl (by kernel_rfl)) rfl ?_
                        exact .inl ⟨⟨sq, f0, f1, x, false⟩, by
                          unfold fsOf
                          rw [HRS.out]
                          exact Rp.out_some.2 ⟨HVAL.out, HAL.out⟩, rfl, rfl, HB6.out⟩
                    · have c1' : decide (x > now) = false := decide_eq_false hx1
                      have c1'' : decide (now < x) = false := decide_eq_false hx1
                      have HAL : Hid (Rp.alive now ⟨sq, f0, f1, x, false⟩ = false) := by
                        show _ = _
                        unfold Rp.alive
                        rw [c1'', decide_eq_false hx0]; rfl
                      go_upto_region 19 with fail
                      go_cut [7] (fun v wx => v = .bool false ∧ Hid (wx.heap[w.heap.size]? = some (.cells #[.int .i64 sq, .int .i64 f0, .int .i64 f1, .int .i64 x, .bool false] 36 (0, 0))) ∧ Hid (Below w.heap.size w wx))
                      case first =>
                        go_region
                        all_goals
                          go_wp2
                          go_meet
                          exact ⟨rfl, stored5 HED.out, HBD.out.trans ((five_zero w5.drew w.heap.size _ _ _ _ _ (rfl : (fun k => k = w.heap.size) w.heap.size)).below HBD.out.size fun k e => by rw [e]; exact Nat.le_refl _)⟩
                      case rest =>
                        obtain ⟨rfl, HE6, HB6⟩ := hcut
                        go_wp2_with fail
                        refine bodyPost_ret (results_row2 rfl _ _ w.heap.size _ _ (0, 0) _ rfl HE6.out Try.underlying36 rfl (by kernel_rfl)) rfl ?_
                        refine .inr ⟨?_, sq, f0, f1, x, rfl, HB6.out⟩
                        unfold Rp.out fsOf
                        rw [HRS.out, HVAL.out]
                        simp only [Option.filter]
                        rw [if_neg (by rw [HAL.out]; decide)]
              · have e1' : (kd == 1) = false := beq_eq_false_iff_ne.2 h1
                have HT2 : Hid (Rp.fin ((rs.map Rf.f).take m) k = Rp.fin (rs.map Rf.f) k) := by
                  rw [← HT.out, HFT.out]
                  exact (Rp.step_other (f := ⟨sq, f0, f1, kd, strOf ky, x⟩) h3 (by first | exact .inl (fun e => hk e.symm) | exact .inr ⟨h1, h2⟩)).symm
                go_wp2_with fail
                exact ⟨⟨m, by omega, rfl, HT2.out, HBN.out⟩, by simp [intOf] <;> omega⟩
          · rw [decide_eq_false hk] at hky
            by_cases h2 : kd = 2
            · have e2' : (kd == 2) = true := beq_iff_eq.2 h2
              have e1' : (kd == 1) = false := beq_eq_false_iff_ne.2 (by omega)
              have HT2 : Hid (Rp.fin ((rs.map Rf.f).take m) k = Rp.fin (rs.map Rf.f) k) := by
                rw [← HT.out, HFT.out]
                exact (Rp.step_other (f := ⟨sq, f0, f1, kd, strOf ky, x⟩) h3 (by first | exact .inl (fun e => hk e.symm) | exact .inr ⟨h1, h2⟩)).symm
              go_wp2_with fail
              exact ⟨⟨m, by omega, rfl, HT2.out, HBN.out⟩, by simp [intOf] <;> omega⟩
            · have e2' : (kd == 2) = false := beq_eq_false_iff_ne.2 h2
              by_cases h1 : kd = 1
              · have e1' : (kd == 1) = true := beq_iff_eq.2 h1
                have HT2 : Hid (Rp.fin ((rs.map Rf.f).take m) k = Rp.fin (rs.map Rf.f) k) := by
                  rw [← HT.out, HFT.out]
                  exact (Rp.step_other (f := ⟨sq, f0, f1, kd, strOf ky, x⟩) h3 (by first | exact .inl (fun e => hk e.symm) | exact .inr ⟨h1, h2⟩)).symm
                go_wp2_with fail
                exact ⟨⟨m, by omega, rfl, HT2.out, HBN.out⟩, by simp [intOf] <;> omega⟩
              · have e1' : (kd == 1) = false := beq_eq_false_iff_ne.2 h1
                have HT2 : Hid (Rp.fin ((rs.map Rf.f).take m) k = Rp.fin (rs.map Rf.f) k) := by
                  rw [← HT.out, HFT.out]
                  exact (Rp.step_other (f := ⟨sq, f0, f1, kd, strOf ky, x⟩) h3 (by first | exact .inl (fun e => hk e.symm) | exact .inr ⟨h1, h2⟩)).symm
                go_wp2_with fail
                exact ⟨⟨m, by omega, rfl, HT2.out, HBN.out⟩, by simp [intOf] <;> omega⟩
end Go.Proofs.Ytcdomlgnfbdeoaa
