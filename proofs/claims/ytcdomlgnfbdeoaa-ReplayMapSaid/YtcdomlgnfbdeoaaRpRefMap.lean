/-
  The reference's Map.
-/
import Derived.Test.YtcdomlgnfbdeoaaRpFind
import Derived.Test.YtcdomlgnfbdeoaaTbRefSet
set_option maxRecDepth 100000
namespace Go.Proofs.Ytcdomlgnfbdeoaa
open Go.RowKit
/-- The records gone through so far, and the next one, as the batches say them. -/
theorem fs_next {l : List Bt} {K i : Nat} {b : Bt} {f : Fd} (hk : K < l.length) (hb : l.getD K Bt0 = b) (hi : i < b.fds.length) (hf : b.fds.getD i Fd0 = f) :
    (upto l K i).length < (fsOf l).length ∧ (fsOf l).getD (upto l K i).length Rp.F0 = (⟨b.seq, f⟩ : Rf).f := by
  obtain ⟨rest, e⟩ := upto_pre hk hb hi hf
  unfold fsOf
  rw [e]
  generalize upto l K i = u
  rw [List.map_append, List.map_cons]
  refine ⟨by rw [List.length_append, List.length_map, List.length_cons]; omega, ?_⟩
  rw [List.getD_eq_getElem?_getD, List.getElem?_append_right (by rw [List.length_map]; exact Nat.le_refl _), List.length_map, Nat.sub_self]
  rfl
/-- What a list of pairs is that a slice reads: for the comparison. -/
def PrsIs (w : World) (L : List Tb.Pr) (e : Ending) (w' : World) : Prop :=
  ∃ A c, e = .returned (.slice A L.length c) ∧ SlIs A L.length c ∧ (A = none ∨ ∃ g, A = some ⟨g, 0, none⟩) ∧ Arr prS w' 0 w'.heap.size A L ∧ Below w.heap.size w w'
set_option maxHeartbeats 4000000 in
theorem refmap_any (A : Option Addr) (B n cap : Nat) (l : List Bt) (now : Int) (w : World) (hB : B ≤ w.heap.size) (hn : Hid (l.length = n)) (hn2 : n ≤ 5) (hf : Hid (∀ b ∈ l, b.fds.length ≤ 8)) (hb : Hid (BtsAt w B A l)) :
    Calls Try.prog 11 #[.slice A n cap, .int .i64 now] w fun e w' => ∃ L, Rp.Is L (Rp.out now (Rp.fin (fsOf l))) ∧ L.length ≤ 48 ∧ PrsIs w L e w' := by
  have CF : Hid (∀ (k : ByteArray) W, Below w.heap.size w W → Calls Try.prog 19 #[.slice A n cap, .string k, .int .i64 now] W (FindIs l k now W)) := fun k W hW =>
    reffind_any A B n cap l k now W (Nat.le_trans hB hW.size) hn (by omega) (Lib.hid fun b hm => Nat.le_trans (hf.out b hm) (by omega)) (Lib.hid (hb.out.below hW hB))
  have HT0 : Hid (RT (fun k => w.heap.size ≤ k) (w.alloc (.cells #[.slice none 0 0] 57)) w.heap.size []) := ⟨_, Nat.le_refl _, heap_alloc_new _ _, SRow.nil⟩
  have HB0 : Hid (Below w.heap.size w (w.alloc (.cells #[.slice none 0 0] 57))) := (Below.refl _ w).alloc (Nat.le_refl _) _
  go_enter Try.func11, Try.ntmps11
  go_upto_region 2 with fail
  generalize w.alloc (.cells #[.slice none 0 0] 57) = w0 at *
  go_wp2_with fail
  go_loopw [16] (fun iv wr => ∃ (K : Nat) (L : List Tb.Pr), K ≤ n ∧ iv = .int .i64 (K : Int) ∧ Hid (Rp.Half (fsOf l) now (upto l K 0).length L) ∧ L.length ≤ (upto l K 0).length ∧ Hid (RT (fun k => w.heap.size ≤ k) wr w.heap.size L) ∧ Hid (Below w.heap.size w wr)) (fun i _ => n - (intOf i).toNat)
  case atStart => exact ⟨0, [], Nat.zero_le _, rfl, by rw [upto_zero]; exact Rp.Half.zero _ _, Nat.zero_le _, HT0, HB0⟩
  case round =>
    clear HT0 HB0
    obtain ⟨K, L, hK, rfl, HH, hLl, HT, HB⟩ := hrel
    generalize wr = wo at *
    by_cases hlt : K < n
    · obtain ⟨ad, rfl⟩ := hb.out.1.some (k := K) (by rw [hn.out]; exact hlt)
      obtain ⟨⟨s, bA, bn, bc, fds⟩, hbt⟩ : ∃ b, l.getD K Bt0 = b := ⟨_, rfl⟩
      obtain ⟨m0, m1⟩ := bts_at (hb.out.1.below HB.out hB) K (by rw [hn.out]; exact hlt) _ hbt
      simp only at m0 m1
      have hmem : (⟨s, bA, bn, bc, fds⟩ : Bt) ∈ l := getD_mem (by rw [hn.out]; exact hlt) hbt
      obtain ⟨hsb, hlb, hfd⟩ := hb.out.2 _ hmem
      simp only at hsb hlb hfd
      have hbn : bn ≤ 8 := by rw [← hlb]; exact hf.out _ hmem
      have HBT := Lib.hid hbt
      have HFD := Lib.hid hfd
      have HLB := Lib.hid hlb
      have HUP : Hid (∀ i, i ≤ bn → (upto l K i).length ≤ 48) := fun i hi => by
        have := upto_len hf.out K (Nat.le_trans hi hbn)
        rw [hn.out] at this
        omega
      clear hbt hmem hsb hlb hfd
      go_upto_region 5 with fail
      have HX := Lib.hid (heap_alloc_new wo (.cells #[.int .i64 s, .slice bA bn bc] 46))
      have HTA := Lib.hid (HT.out.next ((Below.refl _ wo).alloc (Nat.le_refl _) (.cells #[.int .i64 s, .slice bA bn bc] 46)))
      have HBA : Hid (Below w.heap.size w (wo.alloc (.cells #[.int .i64 s, .slice bA bn bc] 46))) := HB.out.alloc HB.out.size _
      clear HT HB m0 m1
      generalize wo.alloc (.cells #[.int .i64 s, .slice bA bn bc] 46) = wa at *
      obtain ⟨z0, z1⟩ := pair_cells HX.out
      go_wp2_with fail
      go_loopw [23] (fun iv wr => ∃ (i : Nat) (L : List Tb.Pr), i ≤ bn ∧ iv = .int .i64 (i : Int) ∧ Hid (Rp.Half (fsOf l) now (upto l K i).length L) ∧ L.length ≤ (upto l K i).length ∧ Hid (RT (fun k => w.heap.size ≤ k) wr w.heap.size L) ∧ Hid (Below w.heap.size w wr)) (fun i _ => bn - (intOf i).toNat)
      case atStart => exact ⟨0, L, Nat.zero_le _, rfl, HH, hLl, HTA, HBA⟩
      case round =>
        clear HH hLl HTA HBA HX z0 z1
        clear L
        obtain ⟨i, L, hi, rfl, HH, hLl, HT, HB⟩ := hrel
        generalize wr = wq at *
        by_cases hlt2 : i < bn
        · obtain ⟨bd, rfl⟩ := HFD.out.1.some (k := i) (by rw [HLB.out]; exact hlt2)
          obtain ⟨⟨f0, f1, ⟨kd, x, A1, A2, n1, c1, n2, c2, ky, vl⟩⟩, hfe⟩ : ∃ f, fds.getD i Fd0 = f := ⟨_, rfl⟩
          obtain ⟨m0, m1, m2, m3, m4, m5⟩ := fds_at (HFD.out.1.below HB.out hB) i (by rw [HLB.out]; exact hlt2) _ hfe
          simp only at m0 m1 m2 m3 m4 m5
          obtain ⟨⟨hsl, hlk, hkb⟩, -⟩ := HFD.out.2 _ (getD_mem (by rw [HLB.out]; exact hlt2) hfe)
          simp only at hsl hlk hkb
          have HNX := Lib.hid (upto_next HBT.out (by rw [HLB.out]; exact hlt2) hfe)
          obtain ⟨hlt3, hat⟩ := fs_next (by rw [hn.out]; exact hlt) HBT.out (by rw [HLB.out]; exact hlt2) hfe
          have HAT : Hid ((fsOf l).getD (upto l K i).length Rp.F0 = ⟨s, f0, f1, kd, strOf ky, x⟩) := hat
          have HLT3 := Lib.hid hlt3
          have HLN : Hid ((upto l K (i + 1)).length = (upto l K i).length + 1) := by show _ = _; rw [HNX.out, List.length_append]; rfl
          have HL48 := HUP.out i (by omega)
          have HCV : Hid (∀ W, Below w.heap.size w W → (convert 40 9 (.slice A1 n1 c1)).run Try.prog W = .ok (.string (strOf ky)) W) := fun W hW => conv_bytes A1 B n1 c1 ky W (fun e => (hsl.1 e).2) hlk (hkb.below hW hB)
          clear hfe hsl hlk hkb hlt3 hat
          go_upto_region 8 with fail
          have HX := Lib.hid (heap_alloc_new wq (.cells #[.int .i64 f0, .int .i64 f1, .int .i64 kd, .slice A1 n1 c1, .slice A2 n2 c2, .int .i64 x] 44))
          have HTA := Lib.hid (HT.out.next ((Below.refl _ wq).alloc (Nat.le_refl _) (.cells #[.int .i64 f0, .int .i64 f1, .int .i64 kd, .slice A1 n1 c1, .slice A2 n2 c2, .int .i64 x] 44)))
          have HBA : Hid (Below w.heap.size w (wq.alloc (.cells #[.int .i64 f0, .int .i64 f1, .int .i64 kd, .slice A1 n1 c1, .slice A2 n2 c2, .int .i64 x] 44))) := HB.out.alloc HB.out.size _
          have HZQ : Hid (w.heap.size < wq.heap.size) := (Array.getElem?_eq_some_iff.1 HT.out.choose_spec.2.1).1
          clear HT HB m0 m1 m2 m3 m4 m5
          generalize wq.alloc (.cells #[.int .i64 f0, .int .i64 f1, .int .i64 kd, .slice A1 n1 c1, .slice A2 n2 c2, .int .i64 x] 44) = wb at *
          obtain ⟨y0, y1, y2, y3, y4, y5⟩ := six_cells HX.out
          have cv := HCV.out wb HBA.out
          go_wp2_with fail
          refine (CF.out (strOf ky) wb HBA.out).mono ?_
          rintro e w3 (⟨⟨e0, e1, e2, e3, e4⟩, hout, hhit, rfl, hb3⟩ | ⟨hout, a0, a1, a2, a3, rfl, hb3⟩)
          · simp only at hhit
            subst hhit
            simp only
            have HOUT : Hid (Rp.out now (Rp.fin (fsOf l)) (strOf ky) = some ⟨e0, e1, e2, e3, false⟩) := hout
            have HX3 := Lib.hid (blk_next HX.out hb3 (Array.getElem?_eq_some_iff.1 HX.out).1)
            have HT3 := Lib.hid (HTA.out.next hb3)
            have HB3 : Hid (Below w.heap.size w w3) := HBA.out.trans (hb3.mono HBA.out.size)
            clear hout hb3 HX HTA HBA y0 y1 y2 y3 y4 y5 cv
            obtain ⟨y0, y1, y2, y3, y4, y5⟩ := six_cells HX3.out
            by_cases hk1 : kd = 1
            · have c1' : (kd == 1) = true := beq_iff_eq.2 hk1
              go_upto_region 9 with fail
              have HE4 := Lib.hid (heap_alloc_new w3 (.cells #[.int .i64 e0, .int .i64 e1, .int .i64 e2, .int .i64 e3, .bool false] 36))
              have HX4 := Lib.hid ((heap_alloc_old w3 (.cells #[.int .i64 e0, .int .i64 e1, .int .i64 e2, .int .i64 e3, .bool false] 36) (Array.getElem?_eq_some_iff.1 HX3.out).1).trans HX3.out)
              have HT4 := Lib.hid (HT3.out.next ((Below.refl _ w3).alloc (Nat.le_refl _) (.cells #[.int .i64 e0, .int .i64 e1, .int .i64 e2, .int .i64 e3, .bool false] 36)))
              have HB4 : Hid (Below w.heap.size w (w3.alloc (.cells #[.int .i64 e0, .int .i64 e1, .int .i64 e2, .int .i64 e3, .bool false] 36))) := HB3.out.alloc HB3.out.size _
              clear HX3 HT3 HB3 y0 y1 y2 y3 y4 y5
              generalize w3.alloc (.cells #[.int .i64 e0, .int .i64 e1, .int .i64 e2, .int .i64 e3, .bool false] 36) = w4 at *
              obtain ⟨y0, y1, y2, y3, y4, y5⟩ := six_cells HX4.out
              obtain ⟨x0, x1, x2, x3, x4⟩ := five_cells HE4.out
              have cv := HCV.out w4 HB4.out
              go_wp2_with fail
              refine (refset_any w.heap.size (strOf ky) e0 e1 e2 e3 false L (fun k => w.heap.size ≤ k) w4 (by omega) (Lib.hid HH.out.srt) HT4).mono ?_
              rintro e w5 ⟨rfl, hk5, L', hT5, hS5, hl5, hm5⟩
              have HT5 : Hid (RT (fun k => w.heap.size ≤ k) w5 w.heap.size L') := hT5.mono fun k _ h => by
                rcases h with h | h
                · exact h
                · exact Nat.le_trans HB4.out.size h.1
              have HB5 : Hid (Below w.heap.size w w5) := HB4.out.trans (hk5.below HB4.out.size fun k h => h)
              have HH5 : Hid (Rp.Half (fsOf l) now (upto l K (i + 1)).length L') := by
                rw [HLN.out]
                exact HH.out.set HLT3.out (by rw [HAT.out]; exact hk1) (by rw [HAT.out]; exact HOUT.out) hS5 (by rw [HAT.out]; exact hm5)
              have hl6 : L'.length ≤ L.length + 1 := by
                rcases hl5 with ⟨-, h⟩ | ⟨-, h⟩ <;> omega
              clear hk5 hT5 hS5 hl5 hm5 y0 y1 y2 y3 y4 y5 x0 x1 x2 x3 x4 cv
              go_wp2_with fail
              exact ⟨⟨i + 1, L', by omega, by go_num, HH5.out, by have := HLN.out; omega, HT5.out, HB5.out⟩, by simp [intOf] <;> omega⟩
            · have c1' : (kd == 1) = false := beq_eq_false_iff_ne.2 hk1
              have HH5 : Hid (Rp.Half (fsOf l) now (upto l K (i + 1)).length L) := by
                rw [HLN.out]
                exact HH.out.same HLT3.out (.inl (by rw [HAT.out]; exact hk1))
              go_upto_region 9 with fail
              have HX4 := Lib.hid ((heap_alloc_old w3 (.cells #[.int .i64 e0, .int .i64 e1, .int .i64 e2, .int .i64 e3, .bool false] 36) (Array.getElem?_eq_some_iff.1 HX3.out).1).trans HX3.out)
              have HT4 := Lib.hid (HT3.out.next ((Below.refl _ w3).alloc (Nat.le_refl _) (.cells #[.int .i64 e0, .int .i64 e1, .int .i64 e2, .int .i64 e3, .bool false] 36)))
              have HB4 : Hid (Below w.heap.size w (w3.alloc (.cells #[.int .i64 e0, .int .i64 e1, .int .i64 e2, .int .i64 e3, .bool false] 36))) := HB3.out.alloc HB3.out.size _
              clear HX3 HT3 HB3 y0 y1 y2 y3 y4 y5
              generalize w3.alloc (.cells #[.int .i64 e0, .int .i64 e1, .int .i64 e2, .int .i64 e3, .bool false] 36) = w4 at *
              obtain ⟨y0, y1, y2, y3, y4, y5⟩ := six_cells HX4.out
              go_wp2_with fail
              exact ⟨⟨i + 1, L, by omega, by go_num, HH5.out, by have := HLN.out; omega, HT4.out, HB4.out⟩, by simp [intOf] <;> omega⟩
          · simp only
            have HH5 : Hid (Rp.Half (fsOf l) now (upto l K (i + 1)).length L) := by
              rw [HLN.out]
              exact HH.out.same HLT3.out (.inr (by rw [HAT.out]; exact hout))
            have HT3 := Lib.hid (HTA.out.next hb3)
            have HB3 : Hid (Below w.heap.size w w3) := HBA.out.trans (hb3.mono HBA.out.size)
            clear hout hb3 HX HTA HBA y0 y1 y2 y3 y4 y5 cv
            go_upto_region 9 with fail
            have HT4 := Lib.hid (HT3.out.next ((Below.refl _ w3).alloc (Nat.le_refl _) (.cells #[.int .i64 a0, .int .i64 a1, .int .i64 a2, .int .i64 a3, .bool false] 36)))
            have HB4 : Hid (Below w.heap.size w (w3.alloc (.cells #[.int .i64 a0, .int .i64 a1, .int .i64 a2, .int .i64 a3, .bool false] 36))) := HB3.out.alloc HB3.out.size _
            clear HT3 HB3
            generalize w3.alloc (.cells #[.int .i64 a0, .int .i64 a1, .int .i64 a2, .int .i64 a3, .bool false] 36) = w4 at *
            go_wp2_with fail
            exact ⟨⟨i + 1, L, by omega, by go_num, HH5.out, by have := HLN.out; omega, HT4.out, HB4.out⟩, by simp [intOf] <;> omega⟩
        · obtain rfl : i = bn := by omega
          have HE := Lib.hid (upto_end (by rw [hn.out]; exact hlt) HBT.out)
          simp only at HE
          rw [HLB.out] at HE
          go_wp2_with fail
          exact ⟨⟨K + 1, L, by omega, by go_num, by rw [← HE.out]; exact HH, by rw [← HE.out]; exact hLl, HT.out, HB.out⟩, by simp [intOf] <;> omega⟩
    · obtain rfl : K = n := by omega
      have HI : Hid (Rp.Is L (Rp.out now (Rp.fin (fsOf l)))) := by
        have h := HH.out
        have e := upto_all l
        rw [hn.out] at e
        rw [e] at h
        have h2 : (rsOf l).length = (fsOf l).length := by unfold fsOf; rw [List.length_map]
        rw [h2] at h
        exact h.done
      have hL48 : L.length ≤ 48 := by
        have := upto_len hf.out K (Nat.zero_le 8)
        rw [hn.out] at this
        omega
      obtain ⟨A1, c1, -, hm, -, hs1, ha1, hA1⟩ := HT.out.open_
      have HA1 := Lib.hid ha1
      have z0 := box_cell hm
      have HA2 : Hid (A1 = none ∨ ∃ g, A1 = some ⟨g, 0, none⟩) := by
        rcases hA1 with h | ⟨g, h, -⟩
        · exact .inl h
        · exact .inr ⟨g, h⟩
      have HSL := Lib.hid hs1
      clear hm ha1 hA1 hs1
      go_wp2_with fail
      go_ret
      exact ⟨L, HI.out, hL48, A1, c1, rfl, HSL.out, HA2.out, HA1.out, HB.out⟩
end Go.Proofs.Ytcdomlgnfbdeoaa
