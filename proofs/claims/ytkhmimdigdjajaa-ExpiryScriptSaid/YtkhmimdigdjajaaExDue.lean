/-
  The walk of Due.
-/
import Derived.Test.YtkhmimdigdjajaaExCalls
import Derived.Test.YtkhmimdigdjajaaRowApp
import Derived.Test.YtkhmimdigdjajaaStrRow
set_option maxRecDepth 100000
namespace Go.Proofs.Ytkhmimdigdjajaa
open Go.RowKit Go.Maps
theorem info_str : (Try.prog.info? 9).map (fun i => (i.zero, i.size, i.bytes)) = some (some (.string ⟨#[]⟩), strS.m, 16) := by kernel_rfl
/-- What Due leaves. -/
def ExDue (M : Nat) (S : Nat → Prop) (q : Nat) (L : List Ex.On) (now : Int) (w : World) (e : Ending) (w' : World) : Prop :=
  ∃ v, e = .returned v ∧ ARow strS 9 w' w.heap.size v (Ex.keys (Ex.due now L)).length (Ex.keys (Ex.due now L)) ∧ Kept S w w' ∧ Que M w' S q (Ex.left now L)
theorem exdue_end {M : Nat} {S U : Nat → Prop} {q : Nat} {L L1 : List Ex.On} {out : List ByteArray} {now : Int} {w wr : World} {v : Value} {B : Nat} (hB : w.heap.size = B) (hU : ∀ k, U k → S k ∧ k < B) (hQ : Que M wr U q L1) (hr : SRow (fun k => B ≤ k) 9 1 wr v out.length (strS.flat out)) (hk : Kept U w wr)
    (h1 : Ex.keys (Ex.due now L) = out ++ Ex.keys (Ex.due now L1)) (h2 : Ex.left now L = Ex.left now L1) (h3 : Ex.due now L1 = [] ∧ Ex.left now L1 = L1) : ExDue M S q L now w (.returned v) wr := by
  rw [h3.1] at h1
  rw [h3.2] at h2
  have h1 : Ex.keys (Ex.due now L) = out := h1.trans (List.append_nil _)
  refine ⟨v, rfl, ?_, hk.mono fun k _ h => (hU k h).1, by rw [h2]; exact hQ.mono fun k _ h => (hU k h).1⟩
  rw [h1]
  refine ⟨hr.1.1, ?_⟩
  rcases hr.1.2 with h0 | ⟨g, cap, cur, e, -, h3⟩
  · exact .inl h0
  · exact .inr ⟨g, cap, cur, e, by rw [hB]; exact hr.2 g (by rw [e]; rfl), h3⟩
set_option maxHeartbeats 2000000 in
theorem exdue_any (M q : Nat) (now : Int) (L : List Ex.On) (S : Nat → Prop) (w : World) (hM : M ≤ 900000) (hT : Hid (Que M w S q L)) :
    Calls Try.prog 13 #[.pointer (some ⟨q, 0, none⟩), .int .i64 now] w (ExDue M S q L now w) := by
  have hT2 : Que M w (fun k => S k ∧ k < w.heap.size) q L := hT.out.mono fun k hl hs => ⟨hs, hl⟩
  obtain ⟨B, hB⟩ : ∃ B, w.heap.size = B := ⟨_, rfl⟩
  rw [hB] at hT2
  generalize hU : (fun k => S k ∧ k < B) = U at hT2
  have HU : Hid (∀ k, U k → S k ∧ k < B) := fun k h => by rw [← hU] at h; exact h
  have HT2 := Lib.hid hT2
  have HB := Lib.hid hB
  have CF := Lib.hid (fun (L1 : List Ex.On) (W : World) (h : Que M W U q L1) => quefirst_any M q L1 U W (Lib.hid h))
  have CR := Lib.hid (fun (k : ByteArray) (L1 : List Ex.On) (W : World) (hk : k.size ≤ 1048576) (h : Que M W U q L1) => exremove_any M q k L1 U W (by omega) hk (Lib.hid h))
  clear hT2 hU hB hT
  go_enter Try.func13, Try.ntmps13
  go_wp2_with fail
  refine (CF.out L w HT2.out).mono ?_
  rintro e w1 ⟨⟨u, rfl, hu⟩, rfl⟩
  have HF := Lib.hid hu
  clear hu
  go_wp2_with fail
  go_loopg [5, 6] L.length (fun t v x wr => ∃ (L1 : List Ex.On) (out : List ByteArray), Hid (t = L1.length) ∧ Hid (Que M wr U q L1) ∧ Hid (Fst L1 wr x) ∧ Hid (SRow (fun k => B ≤ k) 9 1 wr v out.length (strS.flat out)) ∧ Hid (Kept U w1 wr) ∧ Hid (Ex.keys (Ex.due now L) = out ++ Ex.keys (Ex.due now L1) ∧ Ex.left now L = Ex.left now L1 ∧ out.length + L1.length ≤ M))
  case atStart => exact ⟨L, [], rfl, HT2, HF, SRow.nil, Kept.refl _ _, rfl, rfl, by rw [List.length_nil, Nat.zero_add]; exact HT2.out.length⟩
  case round =>
    obtain ⟨L1, out, HG, HQ, HX, HR, HK, HL⟩ := hrel
    generalize hv : u5 = v at *
    clear hv
    rcases HX.out with ⟨rfl, hx⟩ | ⟨x0, L2, b, p, rfl, hx, hb⟩
    · have HE : Hid (ExDue M S q L now w1 (.returned v) wr) := exdue_end HB.out HU.out HQ.out HR.out HK.out HL.out.1 HL.out.2.1 (Ex.due_nil now)
      rw [hx]
      clear hx
      go_wp2_with fail
      go_ret
      exact HE.out
    · obtain ⟨kx, rx⟩ := x0
      obtain ⟨b0, b1, b2⟩ := nd3_cells hb
      simp only at b0 b1
      rw [hx]
      clear hx
      by_cases hr : rx ≤ now
      · have hd := Ex.due_cons_yes (x := ⟨kx, rx⟩) (L := L2) hr
        have HKS : Hid (kx.size ≤ 1048576) := by
          obtain ⟨v', mb', h', -, -, -, -, k5⟩ := HQ.out
          exact k5 _ List.mem_cons_self
        have HKY : Hid (Ex.rem (⟨kx, rx⟩ :: L2) kx = L2) := by
          obtain ⟨v', mb', h', -, -, k5, -⟩ := HQ.out
          exact Ex.rem_first k5.ks
        have HBN := Lib.hid hb
        have HL2 : Hid (Ex.keys (Ex.due now L) = (out ++ [kx]) ++ Ex.keys (Ex.due now L2) ∧ Ex.left now L = Ex.left now L2 ∧ (out ++ [kx]).length + L2.length ≤ M) := by
          obtain ⟨l1, l2, l3⟩ := HL.out
          rw [hd.1] at l1
          rw [hd.2] at l2
          refine ⟨by rw [l1, List.append_assoc]; rfl, l2, ?_⟩
          rw [List.length_append, List.length_singleton]
          rw [List.length_cons] at l3
          omega
        have HGM : Hid (L2.length < gk) := by show _ < _; have := HG.out; rw [this, List.length_cons]; omega
        have HDQ : Hid (Que M wr.drew U q (⟨kx, rx⟩ :: L2)) := HQ.out.next ⟨rfl, rfl, rfl, Nat.le_refl _, fun _ _ => rfl⟩
        have CR1 := Lib.hid (CR.out kx _ _ HKS.out HDQ.out)
        clear hb hd
        go_upto_region 7 with fail
        go_region_with (go_at_call 18; refine CR1.out.mono ?_; rintro e w2 ⟨rfl, hk2, hq2, hs2, hst2⟩; have HK2 := Lib.hid hk2; have HQ2 := Lib.hid hq2; have HST := Lib.hid (hst2 b _ HBN.out); clear hk2 hq2 hs2 hst2)
        rw [HKY.out] at HQ2
        have c0 : w2.cell? ⟨b, 0, none⟩ = some (.string kx) := by
          obtain ⟨cs', e1, e2⟩ := HST.out
          rw [cell_of_row _ _ 0 _ _ _ e1, e2]; rfl
        have HKa : Hid (Kept U w1 w2) := HK.out.trans ⟨HK2.out.os, HK2.out.tape, HK2.out.output, HK2.out.size, HK2.out.block⟩
        have HRa : Hid (SRow (fun k => B ≤ k) 9 1 w2 v out.length (strS.flat out)) := HR.out.kept (⟨HK2.out.os, HK2.out.tape, HK2.out.output, HK2.out.size, HK2.out.block⟩ : Kept U wr w2) fun k _ h1 h2 => by have := (HU.out k h2).2; omega
        have HX3 := Lib.hid (heap_alloc_new w2 (.cells #[.string kx] 9 (0, 0)))
        have HB3 : Hid (Below w2.heap.size w2 (w2.alloc (.cells #[.string kx] 9 (0, 0)))) := (Below.refl _ _).alloc (Nat.le_refl _) _
        have HR3 := Lib.hid (HRa.out.new HB3.out)
        have HK3 : Hid (Kept U w1 (w2.alloc (.cells #[.string kx] 9 (0, 0)))) := HKa.out.trans (Kept.of_new HB3.out)
        have HQ3 := Lib.hid (HQ2.out.next HB3.out)
        have HLE : Hid (out.length ≤ 1000000) := by show _ ≤ _; have := HL.out.2.2; omega
        have HLE2 : Hid ((out.length + 1) * 16 ≤ 140737488355328) := by show _ ≤ _; have := HLE.out; omega
        have HZ3 : Hid (B ≤ (w2.alloc (.cells #[.string kx] 9 (0, 0))).heap.size) := by show _ ≤ _; have := HK3.out.size; have := HB.out; omega
        clear b0 b1 b2 HK2 HQ2 HST HRa HKa HK HR HQ HX HDQ CR1 HBN HKY
        go_wp2_with (at_builtin; refine append_one (Sh := strS) (by rfl) (.tmp 35) (.tmp 40) 34 rfl Try.underlying34 info_str rfl v _ _ rfl HR3.out w2.heap.size 1 kx rfl HX3.out HLE.out HLE2.out ?_; intro v3 w3 hr3 hk3; have HR4 := Lib.hid (hr3.mono fun k _ h => h.elim id fun h => Nat.le_trans HZ3.out h); have HK4 := Lib.hid hk3; clear hr3 hk3)
        have HQ4 : Hid (Que M w3 U q L2) := HQ3.out.kept HK4.out fun k _ h1 h2 => by have := (HU.out k h1).2; have h2 : B ≤ k := h2; omega
        have HK5 : Hid (Kept U w1 w3) := HK3.out.trans' HK4.out fun i h1 h2 => by have h1 : B ≤ i := h1; have := HB.out; omega
        have CF2 := Lib.hid (CF.out L2 w3 HQ4.out)
        clear HQ3 HK3 HK4 HR3 HX3 HB3 c0
        refine CF2.out.mono ?_
        rintro e w4 ⟨⟨u4, rfl, hu4⟩, rfl⟩
        have HF4 := Lib.hid hu4
        clear hu4 CF2
        go_wp2_with fail
        go_roundg L2.length
        case measure => exact HGM.out
        case rel => exact ⟨L2, out ++ [kx], rfl, HQ4, HF4, by rw [List.length_append, List.length_singleton]; exact HR4, HK5, HL2⟩
      · have HE : Hid (ExDue M S q L now w1 (.returned v) wr) := exdue_end HB.out HU.out HQ.out HR.out HK.out HL.out.1 HL.out.2.1 (Ex.due_cons_no (x := ⟨kx, rx⟩) hr)
        have hr2 : now < rx := by omega
        clear hr hb
        go_wp2_with fail
        go_ret
        exact HE.out
end Go.Proofs.Ytkhmimdigdjajaa
