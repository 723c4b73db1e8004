/-
  The walk of Table.Pairs.
-/
import Derived.Test.YtcdomlgnfbdeoaaTbPairs
set_option maxRecDepth 100000
namespace Go.Proofs.Ytcdomlgnfbdeoaa
open Go.RowKit
theorem made_pairs (c : Nat) (hc : c ≤ 400000) (W : World) : (Instr.makeSlice 28 (.int .i64 0) (.int .i64 (c : Int))).run Try.prog W = .ok (.slice (some ⟨W.heap.size, 0, none⟩) 0 c) (W.alloc (.cells (madeCells (prc Tb.Pr0).toArray (c * 6)) 38)) := by
  obtain ⟨i0, hi0, hz0, hz1, hz2⟩ := arr_info info_pair
  have h := run_make (P := Try.prog) W 28 38 i0 (.agg (prc Tb.Pr0).toArray) Try.underlying28 hi0 hz0 .i64 .i64 0 (c : Int) (by omega) (by omega) (by rw [hz2]; omega) (by omega)
  rw [hz1, Int.toNat_natCast] at h
  exact h
theorem made_prow (c : Nat) (hc : c ≤ 400000) (W : World) (B : Nat) (hB : B ≤ W.heap.size) : SRow (fun k => B ≤ k) 38 6 (W.alloc (.cells (madeCells (prc Tb.Pr0).toArray (c * 6)) 38)) (.slice (some ⟨W.heap.size, 0, none⟩) 0 c) 0 (prS.flat []) := by
  refine ⟨⟨rfl, .inr ⟨W.heap.size, c, _, rfl, Nat.zero_le _, heap_alloc_new W _, Nat.zero_le _, by unfold maxLen; omega, by rw [size_madeCells], rfl⟩⟩, fun k e => ?_⟩
  have e1 : W.heap.size = k := Option.some.inj e
  omega
/-- What Pairs answers. -/
def PairsIs (H : ByteArray → Tb.En → Prop) (c : Nat) (w : World) (e : Ending) (w' : World) : Prop :=
  ∃ g cap, ∃ L : List Tb.Pr, e = .returned (.slice (some ⟨g, 0, none⟩) L.length cap) ∧ Tb.Srt L ∧ (∀ k x, (k, x) ∈ L ↔ H k x) ∧ L.length = c ∧ L.length ≤ cap ∧ cap ≤ 9223372036854775807 ∧ Arr prS w' w.heap.size w'.heap.size (some ⟨g, 0, none⟩) L ∧ Below w.heap.size w w'
/-- The same, with the row as the sort has it. -/
def PairsHold (H : ByteArray → Tb.En → Prop) (c : Nat) (w : World) (e : Ending) (w' : World) : Prop :=
  ∃ g cap, ∃ L : List Tb.Pr, e = .returned (.slice (some ⟨g, 0, none⟩) L.length cap) ∧ Tb.Srt L ∧ (∀ k x, (k, x) ∈ L ↔ H k x) ∧ L.length = c ∧ L.length ≤ cap ∧ cap ≤ 9223372036854775807 ∧ Go.Sort.HoldsK prc 6 w' g 0 L.toArray ∧ w.heap.size ≤ g ∧ g < w'.heap.size ∧ Below w.heap.size w w'
set_option maxHeartbeats 4000000 in
theorem tpairs_holds (M q c wk : Nat) (H : ByteArray → Tb.En → Prop) (S : Nat → Prop) (w : World) (hM : M ≤ 40000) (hH : ∀ k x, H k x → k.size ≤ 1048576) (hT : Hid (Tab M w S q H c wk)) :
    Calls Try.prog 16 #[.pointer (some ⟨q, 0, none⟩)] w (PairsHold H c w) := by
  obtain ⟨v, v', l, b, u, o, bo, uo, nx, hO, -, hA, hHH⟩ := hT.out
  have HO := Lib.hid hO
  have HA := Lib.hid hA
  have HD := Lib.hid hO.dif
  have hlen := hO.len
  have hleno := hO.leno
  have hmost := hO.most
  have HH := Lib.hid hHH
  have HSl : Hid (∀ i, (Tb.g l i).st = 1 → (Tb.g l i).k.size ≤ 1048576) := fun i hi => hH _ _ ((hHH _ _).2 (.inl ⟨i, hi, rfl, rfl⟩))
  have HSo : Hid (∀ i, (Tb.g o i).st = 1 → (Tb.g o i).k.size ≤ 1048576) := fun i hi => hH _ _ ((hHH _ _).2 (.inr ⟨i, hi, rfl, rfl⟩))
  obtain ⟨q0, q1, q2, q3, q4, q5, q6, q7, q8⟩ := nine_cells hA.box
  have hq := hA.lt
  have kmk := made_pairs c (by omega) w
  have HR0 := Lib.hid (made_prow c (by omega) w w.heap.size (Nat.le_refl _))
  have HB0 : Hid (Below w.heap.size w (w.alloc (.cells (madeCells (prc Tb.Pr0).toArray (c * 6)) 38))) := (Below.refl _ w).alloc (Nat.le_refl _) _
  clear hO hA hHH hH
  go_enter Try.func16, Try.ntmps16
  go_wp2_with fail
  clear kmk
  generalize w.alloc (.cells (madeCells (prc Tb.Pr0).toArray (c * 6)) 38) = w1 at *
  have HA1 := Lib.hid (HA.out.next HB0.out)
  obtain ⟨q0, q1, q2, q3, q4, q5, q6, q7, q8⟩ := nine_cells HA1.out.box
  refine (tbapp_all q 0 w.heap.size 0 v l [] (.slice (some ⟨w.heap.size, 0, none⟩) 0 c) w1 HB0.out.size hq (fun k e => HA.out.new.lt k e) (by omega) (by omega) q0 HA1.out.new HSl.out HO.out.gf.st HR0.out).mono ?_
  rintro e w2 ⟨pv2, rfl, hr2, hb2, hn2⟩
  have HR2 := Lib.hid hr2
  have HB2 := Lib.hid (HB0.out.trans hb2)
  have HN2 := Lib.hid hn2
  have HA2 := Lib.hid (HA.out.next HB2.out)
  have hil : (Tb.its l).length ≤ 400000 := by rw [Tb.its_length]; have := Tb.cnt_le l; omega
  clear hr2 hb2 hn2 HA1 HB0 HR0 q0 q1 q2 q3 q4 q5 q6 q7 q8
  obtain ⟨q0, q1, q2, q3, q4, q5, q6, q7, q8⟩ := nine_cells HA2.out.box
  go_wp2_with fail
  refine (tbapp_all q 3 w.heap.size (0 + (Tb.its l).length) v' o ([] ++ Tb.its l) pv2 w2 HB2.out.size hq (fun k e => HA.out.old.lt k e) (by omega) (by omega) q3 HA2.out.old HSo.out HO.out.go.st HR2.out).mono ?_
  rintro e w3 ⟨pv3, rfl, hr3, hb3, hn3⟩
  have HB3 := Lib.hid (HB2.out.trans hb3)
  obtain ⟨g, cap, rfl⟩ : ∃ g cap, pv3 = .slice (some ⟨g, 0, none⟩) (0 + (Tb.its l).length + (Tb.its o).length) cap := by
    rcases hr3.1.2 with ⟨h1, h2⟩ | ⟨g, cap, cur, h1, _⟩
    · have e1 : Tb.its l = [] := List.eq_nil_of_length_eq_zero (by omega)
      have e2 : Tb.its o = [] := List.eq_nil_of_length_eq_zero (by omega)
      have e3 := hn3 e2
      have e4 := HN2.out e1
      rw [h1, e4] at e3
      cases e3
    · exact ⟨g, cap, h1⟩
  rw [Nat.zero_add] at *
  have hL : (Tb.its l ++ Tb.its o).length = (Tb.its l).length + (Tb.its o).length := List.length_append
  rw [List.nil_append, ← hL] at hr3
  obtain ⟨hh, hg, hc1, hc2⟩ := row_holds hr3
  have hgb : w.heap.size ≤ g := hr3.2 g rfl
  have hLc : (Tb.its l ++ Tb.its o).length ≤ 1048576 := by rw [HD.out.2.1]; omega
  have CS := Lib.hid (psort_any g cap (Tb.its l ++ Tb.its o) w3 hLc hh hg)
  have HG := Lib.hid hgb
  have HG2 := Lib.hid hg
  have HC1 := Lib.hid hc1
  have HC2 := Lib.hid hc2
  rw [hL] at CS
  clear hr3 hb3 hn3 hh hg hc1 hc2 hgb hLc q0 q1 q2 q3 q4 q5 q6 q7 q8 HR2 HN2 HA2
  have HLL := Lib.hid hL
  clear hL
  go_wp2_with fail
  refine CS.out.mono ?_
  rintro e w4 ⟨rfl, L', hp, hs, hh4, hb4⟩
  have HB4 : Hid (Below w.heap.size w w4) := HB3.out.trans ⟨hb4.os, hb4.tape, hb4.output, hb4.size, fun i hi => hb4.block i (by have := HG.out; omega)⟩
  have hdf : Tb.Dif L' := Tb.dif_perm HD.out.1 hp.symm
  have HS := Lib.hid (Tb.srt_of hdf hs)
  have HLe : Hid (L'.length = (Tb.its l).length + (Tb.its o).length) := hp.length_eq.trans HLL.out
  have HM : Hid (∀ k x, (k, x) ∈ L' ↔ H k x) := fun k x => (hp.mem_iff).trans ((HD.out.2.2 k x).trans (HH.out k x).symm)
  have HAr := Lib.hid hh4
  have HG4 : Hid (g < w4.heap.size) := Nat.lt_of_lt_of_le HG2.out hb4.size
  clear hp hs hh4 hb4 hdf CS
  go_wp2_with fail
  go_ret
  refine ⟨g, cap, L', by rw [HLe.out]; rfl, HS.out, HM.out, by rw [HLe.out, ← HLL.out]; exact HD.out.2.1, by rw [HLe.out, ← HLL.out]; exact HC1.out, by have := HC2.out; unfold maxLen at this; omega, HAr.out, HG.out, HG4.out, HB4.out⟩
theorem tpairs_any (M q c wk : Nat) (H : ByteArray → Tb.En → Prop) (S : Nat → Prop) (w : World) (hM : M ≤ 40000) (hH : ∀ k x, H k x → k.size ≤ 1048576) (hT : Hid (Tab M w S q H c wk)) :
    Calls Try.prog 16 #[.pointer (some ⟨q, 0, none⟩)] w (PairsIs H c w) :=
  (tpairs_holds M q c wk H S w hM hH hT).mono fun _ _ ⟨g, cap, L, h1, h2, h3, h4, h5, h6, h7, h8, h9, h10⟩ => ⟨g, cap, L, h1, h2, h3, h4, h5, h6, holds_arr h7 h8 h9, h10⟩
end Go.Proofs.Ytcdomlgnfbdeoaa
