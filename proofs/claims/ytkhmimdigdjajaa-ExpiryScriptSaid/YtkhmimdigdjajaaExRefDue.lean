/-
  The reference's Due.
-/
import Derived.Test.YtkhmimdigdjajaaExRefPut
set_option maxRecDepth 100000
namespace Go.Proofs.Ytkhmimdigdjajaa
open Go.RowKit Go.Maps
/-- What the reference's Due leaves. -/
def RQDue (R : Nat → Prop) (m : Nat) (L : List Ex.On) (now : Int) (w : World) (e : Ending) (w' : World) : Prop :=
  ∃ v, e = .returned v ∧ ARow strS 9 w' w.heap.size v (Ex.keys (Ex.due now L)).length (Ex.keys (Ex.due now L)) ∧ Kept R w w' ∧ QR R w' m (Ex.left now L)
theorem rqdue_end {R U : Nat → Prop} {m : Nat} {L L1 : List Ex.On} {out : List ByteArray} {now : Int} {w wr : World} {v : Value} {B : Nat} (hB : w.heap.size = B) (hU : ∀ k, U k → R k ∧ k < B) (hQ : QR U wr m L1) (hr : SRow (fun k => B ≤ k) 9 1 wr v out.length (strS.flat out)) (hk : Kept U w wr)
    (h1 : Ex.keys (Ex.due now L) = out ++ Ex.keys (Ex.due now L1)) (h2 : Ex.left now L = Ex.left now L1) (h3 : Ex.due now L1 = [] ∧ Ex.left now L1 = L1) : RQDue R m L now w (.returned v) wr := by
  rw [h3.1] at h1
  rw [h3.2] at h2
  have h1 : Ex.keys (Ex.due now L) = out := h1.trans (List.append_nil _)
  refine ⟨v, rfl, ?_, hk.mono fun k _ h => (hU k h).1, by rw [h2]; exact hQ.mono fun k _ h => (hU k h).1⟩
  rw [h1]
  refine ⟨hr.1.1, ?_⟩
  rcases hr.1.2 with h0 | ⟨g, cap, cur, e, -, h3⟩
  · exact .inl h0
  · exact .inr ⟨g, cap, cur, e, by rw [hB]; exact hr.2 g (by rw [e]; rfl), h3⟩
theorem qr_tail {U : Nat → Prop} {w : World} {m g o n c : Nat} {v : Value} {L : List Ex.On} (hm : w.heap[m]? = some (.cells #[v] 28 (0, 0))) (hUm : U m) (hUg : U g) (hgm : g ≠ m) (hgl : g < w.heap.size) (hn : L.length = n) (hc : n ≤ c) (hcc : c ≤ 9223372036854775807) (hf : FlAt w g o (onS.flat L)) :
    QR U (w.setCell ⟨m, 0, none⟩ (.slice (some ⟨g, o, none⟩) n c)) m L ∧ Kept U w (w.setCell ⟨m, 0, none⟩ (.slice (some ⟨g, o, none⟩) n c)) := by
  have hsz : (w.setCell ⟨m, 0, none⟩ (.slice (some ⟨g, o, none⟩) n c)).heap.size = w.heap.size := by simp [World.setCell]
  refine ⟨⟨some ⟨g, o, none⟩, c, hUm, by rw [hn]; exact one_set hm _, ⟨(fun e => by cases e), by rw [hn]; exact hc, hcc⟩, .inr ⟨g, o, rfl, by rw [hsz]; exact hgl, hUg, hgm, ?_⟩⟩, Kept.setCell w ⟨m, 0, none⟩ _ hUm⟩
  exact hf.kept (Kept.setCell (S := fun k => k = m) w ⟨m, 0, none⟩ _ rfl) hgl hgm
set_option maxHeartbeats 4000000 in
theorem refqdue_any (m : Nat) (now : Int) (L : List Ex.On) (R : Nat → Prop) (w : World) (hL : L.length ≤ 1000) (hT : Hid (QR R w m L)) :
    Calls Try.prog 14 #[.pointer (some ⟨m, 0, none⟩), .int .i64 now] w (RQDue R m L now w) := by
  have hT2 : QR (fun k => R k ∧ k < w.heap.size) w m L := hT.out.mono fun k hl hs => ⟨hs, hl⟩
  obtain ⟨B, hB⟩ : ∃ B, w.heap.size = B := ⟨_, rfl⟩
  rw [hB] at hT2
  generalize hU : (fun k => R k ∧ k < B) = U at hT2
  have HU : Hid (∀ k, U k → R k ∧ k < B) := fun k h => by rw [← hU] at h; exact h
  have HT2 := Lib.hid hT2
  have HB := Lib.hid hB
  clear hT2 hU hB hT
  go_enter Try.func14, Try.ntmps14
  go_wp2_with fail
  go_loopg [5] L.length (fun t v wr => ∃ (L1 : List Ex.On) (out : List ByteArray), Hid (t = L1.length) ∧ Hid (QR U wr m L1) ∧ Hid (SRow (fun k => B ≤ k) 9 1 wr v out.length (strS.flat out)) ∧ Hid (Kept U w wr) ∧ Hid (Ex.keys (Ex.due now L) = out ++ Ex.keys (Ex.due now L1) ∧ Ex.left now L = Ex.left now L1 ∧ out.length + L1.length ≤ 1000))
  case atStart => exact ⟨L, [], rfl, HT2, SRow.nil, Kept.refl _ _, rfl, rfl, by rw [List.length_nil, Nat.zero_add]; exact hL⟩
  case round =>
    obtain ⟨L1, out, HG, HQ, HR, HK, HL⟩ := hrel
    generalize hv : u5 = v at *
    clear hv
    obtain ⟨A, c, hRm, hm, hsl, hA⟩ := HQ.out
    have c0 := one_cell_of hm
    cases L1 with
    | nil =>
      have HE : Hid (RQDue R m L now w (.returned v) wr) := rqdue_end HB.out HU.out HQ.out HR.out HK.out HL.out.1 HL.out.2.1 (Ex.due_nil now)
      have c1 : wr.cell? ⟨m, 0, none⟩ = some (.slice A 0 c) := c0
      clear c0 hm hsl hA
      go_wp2_with fail
      go_ret
      exact HE.out
    | cons x L2 =>
      obtain ⟨kx, rx⟩ := x
      obtain ⟨n2, hn2⟩ : ∃ n2, L2.length = n2 := ⟨_, rfl⟩
      obtain ⟨n, hn⟩ : ∃ n, (⟨kx, rx⟩ :: L2 : List Ex.On).length = n := ⟨_, rfl⟩
      have hnn : n = n2 + 1 := by rw [← hn, List.length_cons, hn2]
      obtain ⟨g, o, rfl, hgl, hgU, hgm, hfl⟩ : ∃ g o, A = some ⟨g, o, none⟩ ∧ g < wr.heap.size ∧ U g ∧ g ≠ m ∧ FlAt wr g o (onS.flat (⟨kx, rx⟩ :: L2)) := by
        rcases hA with h | h
        · have := (hsl.1 h).2; rw [hn] at this; omega
        · exact h
      obtain ⟨m0, m1⟩ := hfl.at_ 0 (Nat.succ_pos _) kx rx rfl
      rw [Nat.zero_mul, Nat.add_zero] at m0 m1
      have hnc := hsl.2.1
      have hcc := hsl.2.2
      rw [hn] at c0 hnc hm
      have hn0 : 0 < n := by omega
      by_cases hr : rx ≤ now
      · have hd := Ex.due_cons_yes (x := ⟨kx, rx⟩) (L := L2) hr
        have HL2 : Hid (Ex.keys (Ex.due now L) = (out ++ [kx]) ++ Ex.keys (Ex.due now L2) ∧ Ex.left now L = Ex.left now L2 ∧ (out ++ [kx]).length + L2.length ≤ 1000) := by
          obtain ⟨l1, l2, l3⟩ := HL.out
          rw [hd.1] at l1
          rw [hd.2] at l2
          refine ⟨by rw [l1, List.append_assoc]; rfl, l2, ?_⟩
          rw [List.length_append, List.length_singleton]
          rw [List.length_cons] at l3
          omega
        have HGM : Hid (L2.length < gk) := by show _ < _; have := HG.out; rw [this, List.length_cons]; omega
        have HX3 := Lib.hid (heap_alloc_new wr (.cells #[.string kx] 9 (0, 0)))
        have HB3 : Hid (Below wr.heap.size wr (wr.alloc (.cells #[.string kx] 9 (0, 0)))) := (Below.refl _ _).alloc (Nat.le_refl _) _
        have HR3 := Lib.hid (HR.out.new HB3.out)
        have HK3 : Hid (Kept U w (wr.alloc (.cells #[.string kx] 9 (0, 0)))) := HK.out.trans (Kept.of_new HB3.out)
        have HLE : Hid (out.length ≤ 1000000) := by show _ ≤ _; have := HL.out.2.2; omega
        have HLE2 : Hid ((out.length + 1) * 16 ≤ 140737488355328) := by show _ ≤ _; have := HL.out.2.2; omega
        have HZ3 : Hid (B ≤ (wr.alloc (.cells #[.string kx] 9 (0, 0))).heap.size) := by show _ ≤ _; have := HK3.out.size; have := HB.out; omega
        have HM3 := Lib.hid ((HB3.out.block m (Array.getElem?_eq_some_iff.1 hm).1).trans hm)
        have HF3 := Lib.hid (hfl.kept (Kept.of_new HB3.out : Kept (fun _ => False) wr _) hgl fun h => h)
        have HGU := Lib.hid hgU
        have HGN := Lib.hid hgm
        have HRM := Lib.hid hRm
        have HMB : Hid (m < B ∧ g < B) := ⟨(HU.out m hRm).2, (HU.out g hgU).2⟩
        have HN2 := Lib.hid hn2
        have HN1 := Lib.hid hnn
        have HMS : Hid (m < (wr.alloc (.cells #[.string kx] 9 (0, 0))).heap.size ∧ g < (wr.alloc (.cells #[.string kx] 9 (0, 0))).heap.size) := by show _ ∧ _; have := HMB.out; have := HZ3.out; omega
        clear hm hfl hgl hgU hgm hRm hA hsl hd hn hn2 HR HK HQ hnn
        go_upto_region 4 with (at_builtin; refine append_one (Sh := strS) (by rfl) (.tmp 23) (.tmp 31) 34 rfl Try.underlying34 info_str rfl v _ _ rfl HR3.out wr.heap.size 1 kx rfl HX3.out HLE.out HLE2.out ?_; intro v3 w3 hr3 hk3; have HR4 := Lib.hid (hr3.mono fun k _ h => h.elim id fun h => Nat.le_trans HZ3.out h); have HK4 := Lib.hid hk3; have HM4 := Lib.hid ((hk3.block m HMS.out.1 (fun h => by have := HMB.out.1; omega)).trans HM3.out); clear hr3 hk3)
        clear c0 m0 m1
        have HF4 := Lib.hid (HF3.out.kept HK4.out HMS.out.2 fun h => by have := HMB.out.2; omega)
        have c0 := one_cell_of HM4.out
        have f0 := frozen_of_row _ m 0 _ _ HM4.out
        have HMU : Hid (U m) := HRM.out
        have HZ4 : Hid (g < w3.heap.size) := Nat.lt_of_lt_of_le HMS.out.2 HK4.out.size
        have HK5 : Hid (Kept U w w3) := HK3.out.trans' HK4.out fun i h1 h2 => by have h1 : B ≤ i := h1; have := HB.out; omega
        have HR5 : Hid (∀ w5, Kept (fun k => k = m) w3 w5 → SRow (fun k => B ≤ k) 9 1 w5 v3 (out ++ [kx]).length (strS.flat (out ++ [kx]))) := fun w5 hk => by
          rw [List.length_append, List.length_singleton]
          exact HR4.out.kept hk fun k _ h1 h2 => by have h1 : B ≤ k := h1; have h2 : k = m := h2; have := HMB.out.1; omega
        by_cases hc1 : c = 1
        · have HQT := Lib.hid (qr_tail (L := L2) (n := n - 1) (c := 0) (o := o) HM4.out HMU.out HGU.out HGN.out HZ4.out (by have := HN2.out; have := HN1.out; omega) (by omega) (by decide) (by
            have h0 : L2 = [] := List.eq_nil_of_length_eq_zero (by have := HN2.out; have := HN1.out; omega)
            rw [h0]; intro j u hu; cases hu))
          have HR6 := Lib.hid (HR5.out _ (Kept.setCell w3 ⟨m, 0, none⟩ (.slice (some ⟨g, o, none⟩) (n - 1) 0) rfl))
          clear HF4
          go_wp2_with fail
          go_roundg L2.length
          case measure => exact HGM.out
          case rel => exact ⟨L2, out ++ [kx], rfl, HQT.out.1, HR6, HK5.out.trans HQT.out.2, HL2⟩
        · have HQT := Lib.hid (qr_tail (L := L2) (n := n - 1) (c := c - 1) (o := o + 2) HM4.out HMU.out HGU.out HGN.out HZ4.out (by have := HN2.out; have := HN1.out; omega) (by omega) (by omega) (by
            have := HF4.out.back 1 (Nat.succ_le_succ (Nat.zero_le _))
            exact this))
          have HR6 := Lib.hid (HR5.out _ (Kept.setCell w3 ⟨m, 0, none⟩ (.slice (some ⟨g, o + 2, none⟩) (n - 1) (c - 1)) rfl))
          clear HF4
          go_wp2_with fail
          go_roundg L2.length
          case measure => exact HGM.out
          case rel => exact ⟨L2, out ++ [kx], rfl, HQT.out.1, HR6, HK5.out.trans HQT.out.2, HL2⟩
      · have HE : Hid (RQDue R m L now w (.returned v) wr) := rqdue_end HB.out HU.out HQ.out HR.out HK.out HL.out.1 HL.out.2.1 (Ex.due_cons_no (x := ⟨kx, rx⟩) hr)
        have hr2 : now < rx := by omega
        clear hr hsl hA hfl hnn hm
        go_wp2_with fail
        go_ret
        exact HE.out
end Go.Proofs.Ytkhmimdigdjajaa
