/-
  The program's Map: a record applied, all records applied, and what is left.
-/
import Derived.Test.YtcdomlgnfbdeoaaRpDel
import Derived.Test.YtcdomlgnfbdeoaaRpRefMap
set_option maxRecDepth 100000
namespace Go.Proofs.Ytcdomlgnfbdeoaa
open Go.RowKit
theorem rp_set {h : Rp.St} {f : Rp.F} (h1 : f.kd = 1) (k : ByteArray) (e : Tb.En) : ((f.key = k ∧ f.en = e) ∨ (f.key ≠ k ∧ h k = some e)) ↔ Rp.step h f k = some e := by
  unfold Rp.step
  rw [if_neg (by omega), if_neg (by omega), if_pos h1]
  by_cases hk : k = f.key
  · rw [if_pos hk]
    constructor
    · rintro (⟨-, h⟩ | ⟨h, -⟩)
      · rw [h]
      · exact absurd hk.symm h
    · intro h
      injection h with h
      exact .inl ⟨hk.symm, h⟩
  · rw [if_neg hk]
    constructor
    · rintro (⟨h, -⟩ | ⟨-, h⟩)
      · exact absurd h.symm hk
      · exact h
    · exact fun h => .inr ⟨fun e => hk e.symm, h⟩
theorem rp_del {h : Rp.St} {f : Rp.F} (h1 : f.kd = 2) (k : ByteArray) (e : Tb.En) : (h k = some e ∧ f.key ≠ k) ↔ Rp.step h f k = some e := by
  unfold Rp.step
  rw [if_neg (by omega), if_pos h1]
  by_cases hk : k = f.key
  · rw [if_pos hk]
    exact ⟨fun h => absurd hk.symm h.2, fun h => by cases h⟩
  · rw [if_neg hk]
    exact ⟨fun h => h.1, fun h => ⟨h, fun e => hk e.symm⟩⟩
theorem rp_flush {h : Rp.St} {f : Rp.F} (h1 : f.kd = 3) (k : ByteArray) (e : Tb.En) : False ↔ Rp.step h f k = some e := by
  rw [Rp.step_flush h1]
  exact ⟨False.elim, fun h => by cases h⟩
theorem rp_same {h : Rp.St} {f : Rp.F} (h1 : f.kd ≠ 1) (h2 : f.kd ≠ 2) (h3 : f.kd ≠ 3) (k : ByteArray) (e : Tb.En) : h k = some e ↔ Rp.step h f k = some e := by
  rw [Rp.step_other h3 (.inr ⟨h1, h2⟩)]
theorem Tab.as {M : Nat} {w : World} {S : Nat → Prop} {q : Nat} {H H' : ByteArray → Tb.En → Prop} {c wk : Nat} (h : Tab M w S q H c wk) (e : ∀ k x, H k x ↔ H' k x) : Tab M w S q H' c wk := by
  obtain ⟨v, v', l, b, u, o, bo, uo, nx, h1, h2, h3, h4⟩ := h
  exact ⟨v, v', l, b, u, o, bo, uo, nx, h1, h2, h3, fun k x => (e k x).symm.trans (h4 k x)⟩
/-- The table that a record leads to: the same one, or a new one. -/
def ApIs (M base : Nat) (S : Nat → Prop) (h : Rp.St) (c : Nat) (f : Rp.F) (w : World) (e : Ending) (w' : World) : Prop :=
  ∃ q' S' c' wk', e = .returned (.pointer (some ⟨q', 0, none⟩)) ∧ c' ≤ c + 1 ∧ Nx base S S' w w' ∧ Tab M w' S' q' (fun k x => Rp.step h f k = some x) c' wk'
theorem nx_after {base : Nat} {S S' : Nat → Prop} {w w0 w' : World} (h : Nx base S S' w0 w') (hb : Below w.heap.size w w0) (hB : base ≤ w.heap.size) : Nx base S S' w w' :=
  ⟨h.own, fun k hk => h.rest k (Nat.lt_of_lt_of_le hk hb.size), (Kept.of_new hb).trans h.kept, (hb.mono hB).trans h.below⟩
set_option maxHeartbeats 4000000 in
theorem rpapply_any (M base B q c wk n1 c1 n2 c2 : Nat) (h : Rp.St) (A1 A2 : Option Addr) (s off len kd x : Int) (ky : List Nat) (S : Nat → Prop) (w : World) (hB : base ≤ w.heap.size) (hM : M ≤ 1048576) (hc : c < M) (hsl : SlIs A1 n1 c1) (hlk : ky.length = n1) (hkz : (strOf ky).size ≤ 1048576) (hkb : Hid (Bs w B A1 ky)) (hBB : B ≤ w.heap.size)
    (hS : Hid (∀ k, S k → base ≤ k ∧ k < w.heap.size)) (hT : Hid (Tab M w S q (fun k x => h k = some x) c wk)) :
    Calls Try.prog 14 #[.pointer (some ⟨q, 0, none⟩), .int .i64 s, .agg #[.int .i64 off, .int .i64 len, .int .i64 kd, .slice A1 n1 c1, .slice A2 n2 c2, .int .i64 x]] w (ApIs M base S h c ⟨s, off, len, kd, strOf ky, x⟩ w) := by
  have HX0 := Lib.hid (heap_alloc_new w (.cells #[.int .i64 off, .int .i64 len, .int .i64 kd, .slice A1 n1 c1, .slice A2 n2 c2, .int .i64 x] 44))
  have HB0 : Hid (Below w.heap.size w (w.alloc (.cells #[.int .i64 off, .int .i64 len, .int .i64 kd, .slice A1 n1 c1, .slice A2 n2 c2, .int .i64 x] 44))) := (Below.refl _ w).alloc (Nat.le_refl _) _
  have HCV : Hid ((convert 40 9 (.slice A1 n1 c1)).run Try.prog (w.alloc (.cells #[.int .i64 off, .int .i64 len, .int .i64 kd, .slice A1 n1 c1, .slice A2 n2 c2, .int .i64 x] 44)) = .ok (.string (strOf ky)) (w.alloc (.cells #[.int .i64 off, .int .i64 len, .int .i64 kd, .slice A1 n1 c1, .slice A2 n2 c2, .int .i64 x] 44))) := conv_bytes A1 B n1 c1 ky _ (fun e => (hsl.1 e).2) hlk (hkb.out.below HB0.out hBB)
  have HZ0 : Hid (base ≤ (w.alloc (.cells #[.int .i64 off, .int .i64 len, .int .i64 kd, .slice A1 n1 c1, .slice A2 n2 c2, .int .i64 x] 44)).heap.size) := Nat.le_trans hB HB0.out.size
  have HS0 : Hid (∀ k, S k → base ≤ k ∧ k < (w.alloc (.cells #[.int .i64 off, .int .i64 len, .int .i64 kd, .slice A1 n1 c1, .slice A2 n2 c2, .int .i64 x] 44)).heap.size) := fun k hk => ⟨(hS.out k hk).1, Nat.lt_of_lt_of_le (hS.out k hk).2 HB0.out.size⟩
  have HT0 := Lib.hid (hT.out.next HB0.out)
  have HBW : Hid (∀ (T T' : Nat → Prop) w', Nx base T T' (w.alloc (.cells #[.int .i64 off, .int .i64 len, .int .i64 kd, .slice A1 n1 c1, .slice A2 n2 c2, .int .i64 x] 44)) w' → Nx base T T' w w') := fun _ _ _ hn => nx_after hn HB0.out hB
  clear hS hT hkb HB0 hsl hlk
  go_enter Try.func14, Try.ntmps14
  go_upto_region 1 with fail
  generalize w.alloc (.cells #[.int .i64 off, .int .i64 len, .int .i64 kd, .slice A1 n1 c1, .slice A2 n2 c2, .int .i64 x] 44) = w0 at *
  obtain ⟨y0, y1, y2, y3, y4, y5⟩ := six_cells HX0.out
  by_cases k1 : kd = 1
  · have hk1 : (kd == 1) = true := beq_iff_eq.2 k1
    have HK := Lib.hid k1
    clear k1
    have cv := HCV.out
    go_wp2_with fail
    refine (tset_any M base q c wk (strOf ky) s off len x false _ S w0 HZ0.out hM hkz hc HS0.out HT0.out).mono ?_
    rintro e w1 ⟨rfl, S1, c1', wk1, hn1', hc1', hT1, -⟩
    have HN1 := Lib.hid hn1'
    have HC1 : Hid (c1' ≤ c + 1) := by
      rcases hc1' with ⟨-, e⟩ | ⟨-, e⟩ <;> (show _ ≤ _; omega)
    have HT1 : Hid (Tab M w1 S1 q (fun k x' => Rp.step h ⟨s, off, len, kd, strOf ky, x⟩ k = some x') c1' wk1) := hT1.as fun k e => rp_set (h := h) (f := ⟨s, off, len, kd, strOf ky, x⟩) HK.out k e
    clear hn1' hc1' hT1 y0 y1 y2 y3 y4 y5 cv HX0 HCV
    go_wp2_with fail
    go_ret
    exact ⟨q, S1, c1', wk1, rfl, HC1.out, HBW.out _ _ _ HN1.out, HT1.out⟩
  · have hk1 : (kd == 1) = false := beq_eq_false_iff_ne.2 k1
    by_cases k2 : kd = 2
    · have hk2 : (kd == 2) = true := beq_iff_eq.2 k2
      have HK := Lib.hid k2
      clear k1 k2
      have cv := HCV.out
      go_wp2_with fail
      refine (tdel_any M base q c wk (strOf ky) _ S w0 HZ0.out hM hkz HS0.out HT0.out).mono ?_
      rintro e w1 ⟨y, c1', wk1, rfl, hc1', hn1', hT1, -⟩
      have HN1 := Lib.hid hn1'
      have HC1 : Hid (c1' ≤ c + 1) := by
        rcases hc1' with ⟨-, -, e⟩ | ⟨-, -, e⟩ <;> (show _ ≤ _; omega)
      have HT1 : Hid (Tab M w1 S q (fun k x' => Rp.step h ⟨s, off, len, kd, strOf ky, x⟩ k = some x') c1' wk1) := hT1.as fun k e => rp_del (h := h) (f := ⟨s, off, len, kd, strOf ky, x⟩) HK.out k e
      clear hn1' hc1' hT1 y0 y1 y2 y3 y4 y5 cv HX0 HCV
      go_wp2_with fail
      go_ret
      exact ⟨q, S, c1', wk1, rfl, HC1.out, HBW.out _ _ _ HN1.out, HT1.out⟩
    · have hk2 : (kd == 2) = false := beq_eq_false_iff_ne.2 k2
      by_cases k3 : kd = 3
      · have hk3 : (kd == 3) = true := beq_iff_eq.2 k3
        have HK := Lib.hid k3
        clear k1 k2 k3
        go_wp2_with fail
        refine (tnew_any M base w0 HZ0.out).mono ?_
        rintro e w1 ⟨rfl, hb1, hS1, hT1⟩
        have HT1 : Hid (Tab M w1 (fun k => k = w0.heap.size) w0.heap.size (fun k x' => Rp.step h ⟨s, off, len, kd, strOf ky, x⟩ k = some x') 0 0) := hT1.as fun k e => rp_flush (h := h) (f := ⟨s, off, len, kd, strOf ky, x⟩) HK.out k e
        have HN1 : Hid (Nx base S (fun k => k = w0.heap.size) w0 w1) := ⟨hS1, fun k hk _ e => by omega, Kept.of_new hb1, hb1.mono HZ0.out⟩
        clear hT1 hS1 hb1 y0 y1 y2 y3 y4 y5 HX0 HCV
        go_wp2_with fail
        go_ret
        exact ⟨w0.heap.size, _, 0, 0, rfl, Nat.zero_le _, HBW.out _ _ _ HN1.out, HT1.out⟩
      · have hk3 : (kd == 3) = false := beq_eq_false_iff_ne.2 k3
        have HT1 : Hid (Tab M w0 S q (fun k x' => Rp.step h ⟨s, off, len, kd, strOf ky, x⟩ k = some x') c wk) := HT0.out.as fun k e => rp_same (h := h) (f := ⟨s, off, len, kd, strOf ky, x⟩) k1 k2 k3 k e
        clear k1 k2 k3
        go_wp2_with fail
        go_ret
        exact ⟨q, S, c, wk, rfl, Nat.le_succ _, HBW.out _ _ _ (Nx.same HZ0.out HS0.out (Kept.refl _ _)), HT1.out⟩
theorem str_size (l : List Nat) : (strOf l).size = l.length := by
  show (((l.map Int.ofNat).map fun n => UInt8.ofNat n.toNat).toArray).size = _
  rw [List.size_toArray, List.length_map, List.length_map]
/-- The keys that are left are keys of records. -/
theorem fs_key {w : World} {B : Nat} {A : Option Addr} {l : List Bt} (hb : BtsAt w B A l) (hk : ∀ b ∈ l, ∀ f ∈ b.fds, f.rd.n1 ≤ 10) {k : ByteArray} {x : Tb.En} (h : Rp.fin (fsOf l) k = some x) : k.size ≤ 1048576 := by
  obtain ⟨f, hf, -, rfl, -⟩ := Rp.fin_some rfl h
  unfold fsOf at hf
  obtain ⟨r, hr, rfl⟩ := List.mem_map.1 hf
  have hh := rs_here hb r hr
  unfold rsOf at hr
  obtain ⟨b, hbm, hr⟩ := List.mem_flatMap.1 hr
  unfold Bt.rs at hr
  obtain ⟨fd, hfd, rfl⟩ := List.mem_map.1 hr
  have h1 := hk b hbm fd hfd
  have h2 : fd.rd.key.length = fd.rd.n1 := hh.1.2.1
  show (strOf fd.rd.key).size ≤ _
  rw [str_size]
  omega
theorem filter_rpx (now : Int) (L : List Tb.Pr) : (L.filter fun r => !rpx now r) = L.filter fun q => Rp.alive now q.2 := by
  refine List.filter_congr fun r _ => ?_
  unfold rpx
  rw [Bool.not_not]
set_option maxHeartbeats 4000000 in
theorem rpmap_any (A : Option Addr) (B n cap : Nat) (l : List Bt) (now : Int) (w : World) (hs : SlIs A n cap) (hB : B ≤ w.heap.size) (hn : Hid (l.length = n)) (hn2 : n ≤ 12) (hf : Hid (∀ b ∈ l, b.fds.length ≤ 8)) (hk : Hid (∀ b ∈ l, ∀ f ∈ b.fds, f.rd.n1 ≤ 10)) (hb : Hid (BtsAt w B A l)) :
    Calls Try.prog 10 #[.slice A n cap, .int .i64 now] w fun e w' => ∃ L, Rp.Is L (Rp.out now (Rp.fin (fsOf l))) ∧ L.length ≤ 1000 ∧ PrsIs w L e w' := by
  have HN0 : Hid (NowAt (w.alloc (.cells #[.int .i64 now] 3)) w.heap.size now) := heap_alloc_new w _
  have HB0 : Hid (Below w.heap.size w (w.alloc (.cells #[.int .i64 now] 3))) := (Below.refl _ w).alloc (Nat.le_refl _) _
  have hmf : ∀ (fn : Fn) (first cap : Array Value) (w : World), (Instr.makeFunc fn first cap).run Try.prog w = .ok (.func fn first cap) w := fun _ _ _ _ => rfl
  have HBT : Hid (BtsAt (w.alloc (.cells #[.int .i64 now] 3)) B A l) := hb.out.below HB0.out hB
  have HBB : Hid (B ≤ (w.alloc (.cells #[.int .i64 now] 3)).heap.size) := Nat.le_trans hB HB0.out.size
  have HKZ : Hid (∀ k x, Rp.fin (fsOf l) k = some x → k.size ≤ 1048576) := fun k x h => fs_key hb.out hk.out h
  clear hb hB
  go_enter Try.func10, Try.ntmps10
  go_upto_region 1 with fail
  generalize w.alloc (.cells #[.int .i64 now] 3) = w0 at *
  have HGN : Hid (w.heap.size < w0.heap.size) := HN0.out.lt
  generalize hgn : w.heap.size = gn at *
  have HGE := Lib.hid hgn
  clear hgn
  go_wp2_with fail
  refine (tnew_any 40000 w0.heap.size w0 (Nat.le_refl _)).mono ?_
  rintro e w1 ⟨rfl, hb1, hS1, hT1⟩
  have HB1 := Lib.hid hb1
  have HS1 := Lib.hid hS1
  have HT1 : Hid (Tab 40000 w1 (fun k => k = w0.heap.size) w0.heap.size (fun k x => Rp.fin ((upto l 0 0).map Rf.f) k = some x) 0 0) := hT1.as fun k x => ⟨False.elim, fun h => by rw [upto_zero] at h; cases h⟩
  clear hb1 hS1 hT1
  go_wp2_with fail
  go_loopw [5, 13] (fun qv iv wr => ∃ (K q c wk : Nat) (S : Nat → Prop), K ≤ n ∧ qv = .pointer (some ⟨q, 0, none⟩) ∧ iv = .int .i64 (K : Int) ∧ c ≤ (upto l K 0).length ∧ Hid (∀ k, S k → w0.heap.size ≤ k ∧ k < wr.heap.size) ∧ Hid (Tab 40000 wr S q (fun k x => Rp.fin ((upto l K 0).map Rf.f) k = some x) c wk) ∧ Hid (Below w0.heap.size w0 wr)) (fun _ i _ => n - (intOf i).toNat)
  case atStart => exact ⟨0, w0.heap.size, 0, 0, _, Nat.zero_le _, rfl, rfl, Nat.zero_le _, HS1, HT1, HB1⟩
  case round =>
    clear HT1 HS1 HB1
    obtain ⟨K, q, c, wk, S, hK, rfl, rfl, hc, HS, HT, HB⟩ := hrel
    generalize wr = wo at *
    have HUL : Hid (∀ i, i ≤ 8 → (upto l K i).length ≤ 104) := fun i hi => by
      have := upto_len hf.out K hi
      rw [hn.out] at this
      have : n * 8 ≤ 12 * 8 := Nat.mul_le_mul_right 8 hn2
      show _ ≤ _
      omega
    by_cases hlt : K < n
    · obtain ⟨ad, rfl⟩ := HBT.out.1.some (k := K) (by rw [hn.out]; exact hlt)
      obtain ⟨⟨s, bA, bn, bc, fds⟩, hbt⟩ : ∃ b, l.getD K Bt0 = b := ⟨_, rfl⟩
      obtain ⟨m0, m1⟩ := bts_at (HBT.out.1.below HB.out HBB.out) K (by rw [hn.out]; exact hlt) _ hbt
      simp only at m0 m1
      have hmem : (⟨s, bA, bn, bc, fds⟩ : Bt) ∈ l := getD_mem (by rw [hn.out]; exact hlt) hbt
      obtain ⟨hsb, hlb, hfd⟩ := HBT.out.2 _ hmem
      simp only at hsb hlb hfd
      have hbn : bn ≤ 8 := by rw [← hlb]; exact hf.out _ hmem
      have HK10 : Hid (∀ f ∈ fds, f.rd.n1 ≤ 10) := hk.out _ hmem
      have HGD := Lib.hid hbt
      have HFD := Lib.hid hfd
      have HLB := Lib.hid hlb
      clear hbt hmem hsb hlb hfd
      go_upto_region 5 with fail
      have HX := Lib.hid (heap_alloc_new wo (.cells #[.int .i64 s, .slice bA bn bc] 34))
      have HBA0 : Hid (Below wo.heap.size wo (wo.alloc (.cells #[.int .i64 s, .slice bA bn bc] 34))) := (Below.refl _ wo).alloc (Nat.le_refl _) _
      have HTA := Lib.hid (HT.out.next HBA0.out)
      have HSA : Hid (∀ k, S k → w0.heap.size ≤ k ∧ k < (wo.alloc (.cells #[.int .i64 s, .slice bA bn bc] 34)).heap.size) := fun k hk => ⟨(HS.out k hk).1, Nat.lt_of_lt_of_le (HS.out k hk).2 HBA0.out.size⟩
      have HBA : Hid (Below w0.heap.size w0 (wo.alloc (.cells #[.int .i64 s, .slice bA bn bc] 34))) := HB.out.trans (HBA0.out.mono HB.out.size)
      have HXZ : Hid (w0.heap.size ≤ wo.heap.size) := HB.out.size
      have HXS : Hid (∀ k, S k → k ≠ wo.heap.size) := fun k hk e => by have := (HS.out k hk).2; omega
      clear HS HT HB HBA0 m0 m1
      generalize wo.alloc (.cells #[.int .i64 s, .slice bA bn bc] 34) = wa at *
      generalize wo.heap.size = xb at *
      obtain ⟨z0, z1⟩ := pair_cells HX.out
      go_wp2_with fail
      go_loopw [5, 20] (fun qv iv wr => ∃ (i q c wk : Nat) (S : Nat → Prop), i ≤ bn ∧ qv = .pointer (some ⟨q, 0, none⟩) ∧ iv = .int .i64 (i : Int) ∧ c ≤ (upto l K i).length ∧ Hid (∀ k, S k → w0.heap.size ≤ k ∧ k < wr.heap.size) ∧ Hid (Tab 40000 wr S q (fun k x => Rp.fin ((upto l K i).map Rf.f) k = some x) c wk) ∧ Hid (Below w0.heap.size w0 wr) ∧ Hid (wr.heap[xb]? = some (.cells #[.int .i64 s, .slice bA bn bc] 34 (0, 0))) ∧ Hid (∀ k, S k → k ≠ xb)) (fun _ i _ => bn - (intOf i).toNat)
      case atStart => exact ⟨0, q, c, wk, S, Nat.zero_le _, rfl, rfl, hc, HSA.out, HTA.out, HBA.out, HX.out, HXS.out⟩
      case round =>
        clear HSA HTA HBA HX HXS hc z0 z1
        obtain ⟨i, qq, cc, wkk, SS, hi, rfl, rfl, hc, HS, HT, HB, HX, HXS⟩ := hrel
        generalize wr = wq at *
        by_cases hlt2 : i < bn
        · obtain ⟨bd, rfl⟩ := HFD.out.1.some (k := i) (by rw [HLB.out]; exact hlt2)
          obtain ⟨⟨f0, f1, ⟨kd, x, A1, A2, n1, c1, n2, c2, ky, vl⟩⟩, hfe⟩ : ∃ f, fds.getD i Fd0 = f := ⟨_, rfl⟩
          obtain ⟨m0, m1, m2, m3, m4, m5⟩ := fds_at (HFD.out.1.below HB.out HBB.out) i (by rw [HLB.out]; exact hlt2) _ hfe
          simp only at m0 m1 m2 m3 m4 m5
          have hfm := getD_mem (by rw [HLB.out]; exact hlt2) hfe
          obtain ⟨⟨hsl, hlk, hkb⟩, -⟩ := HFD.out.2 _ hfm
          have hn1 := HK10.out _ hfm
          simp only at hsl hlk hkb hn1
          have HNX := Lib.hid (upto_next HGD.out (by rw [HLB.out]; exact hlt2) hfe)
          have HFN : Hid (∀ k, Rp.step (Rp.fin ((upto l K i).map Rf.f)) ⟨s, f0, f1, kd, strOf ky, x⟩ k = Rp.fin ((upto l K (i + 1)).map Rf.f) k) := fun k => by
            rw [HNX.out, List.map_append, List.map_cons, List.map_nil, Rp.fin_next]
            rfl
          have HLN : Hid ((upto l K (i + 1)).length = (upto l K i).length + 1) := by show _ = _; rw [HNX.out, List.length_append]; rfl
          have HL104 := HUL.out i (by omega)
          have hkz : (strOf ky).size ≤ 1048576 := by rw [str_size]; omega
          have HKB := Lib.hid hkb
          have HSL := Lib.hid hsl
          have HLK := Lib.hid hlk
          clear hfe hfm hsl hlk hkb HNX
          go_upto_region 8 with fail
          have HXF := Lib.hid (heap_alloc_new wq (.cells #[.int .i64 f0, .int .i64 f1, .int .i64 kd, .slice A1 n1 c1, .slice A2 n2 c2, .int .i64 x] 44))
          have HBA0 : Hid (Below wq.heap.size wq (wq.alloc (.cells #[.int .i64 f0, .int .i64 f1, .int .i64 kd, .slice A1 n1 c1, .slice A2 n2 c2, .int .i64 x] 44))) := (Below.refl _ wq).alloc (Nat.le_refl _) _
          have HTA := Lib.hid (HT.out.next HBA0.out)
          have HSA : Hid (∀ k, SS k → w0.heap.size ≤ k ∧ k < (wq.alloc (.cells #[.int .i64 f0, .int .i64 f1, .int .i64 kd, .slice A1 n1 c1, .slice A2 n2 c2, .int .i64 x] 44)).heap.size) := fun k hk => ⟨(HS.out k hk).1, Nat.lt_of_lt_of_le (HS.out k hk).2 HBA0.out.size⟩
          have HBA : Hid (Below w0.heap.size w0 (wq.alloc (.cells #[.int .i64 f0, .int .i64 f1, .int .i64 kd, .slice A1 n1 c1, .slice A2 n2 c2, .int .i64 x] 44))) := HB.out.trans (HBA0.out.mono HB.out.size)
          have HXA : Hid ((wq.alloc (.cells #[.int .i64 f0, .int .i64 f1, .int .i64 kd, .slice A1 n1 c1, .slice A2 n2 c2, .int .i64 x] 44)).heap[xb]? = some (.cells #[.int .i64 s, .slice (some bd) bn bc] 34 (0, 0))) := blk_next HX.out HBA0.out (Array.getElem?_eq_some_iff.1 HX.out).1
          clear HS HT HB HBA0 HX m0 m1 m2 m3 m4 m5
          generalize wq.alloc (.cells #[.int .i64 f0, .int .i64 f1, .int .i64 kd, .slice A1 n1 c1, .slice A2 n2 c2, .int .i64 x] 44) = wb at *
          obtain ⟨y0, y1, y2, y3, y4, y5⟩ := six_cells HXF.out
          obtain ⟨z0, z1⟩ := pair_cells HXA.out
          have CA := Lib.hid (rpapply_any 40000 w0.heap.size B qq cc wkk n1 c1 n2 c2 (Rp.fin ((upto l K i).map Rf.f)) A1 A2 s f0 f1 kd x ky SS wb HBA.out.size (by omega) (by omega) HSL.out HLK.out hkz (Lib.hid (HKB.out.below HBA.out HBB.out)) (Nat.le_trans HBB.out HBA.out.size) HSA HTA)
          go_wp2_with fail
          refine CA.out.mono ?_
          rintro e w3 ⟨q3, S3, c3, wk3, rfl, hc3, hn3, hT3⟩
          have hxx := hn3.box HXA.out (fun h => HXS.out xb h rfl)
          have HX3 := Lib.hid hxx.1
          have HXS3 : Hid (∀ k, S3 k → k ≠ xb) := fun k h e => hxx.2 (e ▸ h)
          have HS3 := Lib.hid hn3.own
          have HB3 : Hid (Below w0.heap.size w0 w3) := HBA.out.trans hn3.below
          have HT3 : Hid (Tab 40000 w3 S3 q3 (fun k x => Rp.fin ((upto l K (i + 1)).map Rf.f) k = some x) c3 wk3) := hT3.as fun k e => by rw [HFN.out]
          have hcl : c3 ≤ (upto l K (i + 1)).length := by have := HLN.out; omega
          clear hn3 hT3 hxx CA HFN HLN HSA HTA HBA HXA HXF HXS y0 y1 y2 y3 y4 y5 z0 z1
          go_wp2_with fail
          exact ⟨⟨i + 1, q3, c3, wk3, S3, by omega, rfl, by go_num, hcl, HS3.out, HT3.out, HB3.out, HX3.out, HXS3.out⟩, by simp [intOf] <;> omega⟩
        · obtain rfl : i = bn := by omega
          have HE := Lib.hid (upto_end (by rw [hn.out]; exact hlt) HGD.out)
          simp only at HE
          rw [HLB.out] at HE
          rw [HE.out] at HT hc
          go_wp2_with fail
          exact ⟨⟨K + 1, qq, cc, wkk, SS, by omega, rfl, by go_num, hc, HS.out, HT.out, HB.out⟩, by simp [intOf] <;> omega⟩
    · obtain rfl : K = n := by omega
      have hc104 := Nat.le_trans hc (HUL.out 0 (by omega))
      have HT2 : Hid (Tab 40000 wo S q (fun k x => Rp.fin (fsOf l) k = some x) c wk) := by
        have e := upto_all l
        rw [hn.out] at e
        rw [e] at HT
        exact HT
      have CP := Lib.hid (tpairs_holds 40000 q c wk _ S wo (by omega) HKZ.out HT2)
      have HNW := Lib.hid (HN0.out.next HB.out HGN.out)
      clear HT HS hc
      go_wp2_with fail
      refine CP.out.mono ?_
      rintro e w3 ⟨g, cp, L, rfl, hsrt, hmem, hlen, hcap, hcm, hh, hg1, hg2, hb3⟩
      have HZ3 : Hid (w0.heap.size ≤ wo.heap.size) := HB.out.size
      have hgg : gn < g := by have := HZ3.out; have := HGN.out; omega
      have hIs : Rp.Is (L.filter fun r => !rpx now r) (Rp.out now (Rp.fin (fsOf l))) := by
        rw [filter_rpx]
        exact Rp.Is.alive ⟨hsrt, hmem⟩ now
      have HIS := Lib.hid hIs
      have HHK := Lib.hid hh
      have HW3 : Hid (Below w0.heap.size w0 w3) := HB.out.trans (hb3.mono HB.out.size)
      have CD := Lib.hid (rpdelete_any now gn g L.length cp L w3 rfl (by omega) hcap hg2 HHK hgg (Lib.hid (HNW.out.next hb3 (Nat.lt_of_lt_of_le HGN.out HZ3.out))))
      have HG1 : Hid (w0.heap.size ≤ g) := by show _ ≤ _; have := HZ3.out; omega
      have HCM := Lib.hid hcm
      have HCP := Lib.hid hcap
      have HLC := Lib.hid hlen
      clear hsrt hmem hlen hcap hcm hh hg1 hb3 hIs CP
      go_wp2_with fail
      refine CD.out.mono ?_
      rintro e w4 ⟨m, rfl, hmn, rfl, ha, hg4, hb4⟩
      have HA4 : Hid (Arr prS w4 0 w4.heap.size (some ⟨g, 0, none⟩) (L.filter fun r => !rpx now r)) := (ha.up (C := w4.heap.size) hg4).down (Nat.zero_le _)
      have HB4 : Hid (Below gn w w4) := (HB0.out.trans (HW3.out.mono (by have := HGN.out; omega))).trans (hb4.mono (Nat.le_of_lt hgg))
      clear ha hg4 hb4 CD
      go_wp2_with fail
      go_ret
      have h1 := HLC.out
      have h2 := HCP.out
      exact ⟨_, HIS.out, by omega, some ⟨g, 0, none⟩, cp, rfl, ⟨(fun h => by cases h), Nat.le_trans hmn h2, HCM.out⟩, .inr ⟨g, rfl⟩, HA4.out, by rw [HGE.out]; exact HB4.out⟩
end Go.Proofs.Ytcdomlgnfbdeoaa
