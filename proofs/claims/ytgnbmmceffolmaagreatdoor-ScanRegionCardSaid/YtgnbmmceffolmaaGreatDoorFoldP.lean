/-
  The texts HdParse, HdDecode, HdRefDecode, Hold, PkLawRecords of this proof, one behind the other.
-/
import Derived.Test.YtgnbmmceffolmaaGreatDoorFoldM
import Derived.Test.YtgnbmmceffolmaaGreatDoorFoldB
import Derived.StillTailTactics
import Derived.Test.YtgnbmmceffolmaaGreatDoorFoldC
import Derived.Test.YtgnbmmceffolmaaGreatDoorFoldI
import Derived.Test.YtgnbmmceffolmaaGreatDoorFoldE
import Derived.Deep.DeepCutAuto
import Derived.Deep.CutBlock
section
set_option maxRecDepth 100000
namespace Go.Proofs.YtgnbmmceffolmaaGreatDoor
open Go.RowKit
theorem hdnext_any (w0 : World) (lo g gi : Nat) (l l' : List Nat) (ki : Int) (k N : Nat) (hki : ki = (k : Int)) (h1 : 1 ≤ k) (h6 : k ≤ 6) (hk : k ≤ l.length) (hN : Wire.num (l.take k) = N) (hl' : l.drop k = l') (w : World) (h : Hid (Ps w0 lo g gi false l w)) :
    Calls Tryz.prog 83 #[.int .i64 ki, .pointer (some ⟨gi, 0, none⟩)] w fun r w' => r = .returned (.int .i64 (N : Int)) ∧ Ps w0 lo g gi false l' w' := by
  have hlt := num6 l k h6 h.out.1.bytes
  have HC := Lib.hid (num_ok lo g l ki k hki h1 (by omega) hk w h.out.1)
  unfold GotNum at HC
  rw [hN] at HC hlt
  rw [hl'] at HC
  have hc := h.out.cell
  clear hki h1 h6 hk hN hl'
  go_enter Tryz.func83, Tryz.ntmps83
  go_wp2_with fail
  refine HC.out.mono ?_
  rintro r w1 ⟨rfl, hr1, hg1⟩
  have H1 := Lib.hid (h.out.next hr1 hg1)
  clear hr1 hg1
  go_wp2
  go_ret
  exact ⟨rfl, H1.out⟩
set_option maxHeartbeats 2000000 in
theorem hdparse_any (A : Option Addr) (B c : Nat) (p : List Nat) (w : World) (hB : B ≤ w.heap.size) (hs : SlIs A 59 c) (hl : p.length = 59) (hb : Bs w B A p) :
    Calls Tryz.prog 52 #[.slice A 59 c] w fun r w' => r = .returned (.tuple #[.agg #[.int .i64 (Hd.rd p).ver, .int .i64 (Hd.rd p).slot, .int .i64 (Hd.rd p).lay, .int .i64 (Hd.rd p).seq, .int .i64 (Hd.rd p).tail, .int .i64 (Hd.rd p).now], .bool (Hd.rest0 p)]) ∧ Below w.heap.size w w' := by
  have HRD : Hid (Hd.rd p = ⟨(Wire.num (p.take 1) : Int), (Wire.num ((p.drop 1).take 1) : Int), (Wire.num ((p.drop 2).take 4) : Int), (Wire.num ((p.drop 6).take 6) : Int), (Wire.num ((p.drop 12).take 6) : Int), (Wire.num ((p.drop 18).take 5) : Int)⟩) := rfl
  rw [HRD.out]
  clear HRD
  have L1 : Hid ((p.drop 1).length = 58) := by show _ = _; rw [List.length_drop]; omega
  have L2 : Hid ((p.drop 2).length = 57) := by show _ = _; rw [List.length_drop]; omega
  have L6 : Hid ((p.drop 6).length = 53) := by show _ = _; rw [List.length_drop]; omega
  have L12 : Hid ((p.drop 12).length = 47) := by show _ = _; rw [List.length_drop]; omega
  have L18 : Hid ((p.drop 18).length = 41) := by show _ = _; rw [List.length_drop]; omega
  have D2 : Hid ((p.drop 1).drop 1 = p.drop 2) := List.drop_drop ..
  have D6 : Hid ((p.drop 2).drop 4 = p.drop 6) := List.drop_drop ..
  have D12 : Hid ((p.drop 6).drop 6 = p.drop 12) := List.drop_drop ..
  have D18 : Hid ((p.drop 12).drop 6 = p.drop 18) := List.drop_drop ..
  have D23 : Hid ((p.drop 18).drop 5 = p.drop 23) := List.drop_drop ..
  have HZ0 : Hid (Hd.rest0 p = (p.drop 23).all (· == 0)) := rfl
  have D1 : Hid (p.drop 1 = p.drop 1) := rfl
  have N0 : Hid (Wire.num (p.take 1) = Wire.num (p.take 1)) := rfl
  have N1 : Hid (Wire.num ((p.drop 1).take 1) = Wire.num ((p.drop 1).take 1)) := rfl
  have N2 : Hid (Wire.num ((p.drop 2).take 4) = Wire.num ((p.drop 2).take 4)) := rfl
  have N3 : Hid (Wire.num ((p.drop 6).take 6) = Wire.num ((p.drop 6).take 6)) := rfl
  have N4 : Hid (Wire.num ((p.drop 12).take 6) = Wire.num ((p.drop 12).take 6)) := rfl
  have N5 : Hid (Wire.num ((p.drop 18).take 5) = Wire.num ((p.drop 18).take 5)) := rfl
  generalize hn0 : Wire.num (p.take 1) = n0 at N0 ⊢
  generalize hn1 : Wire.num ((p.drop 1).take 1) = n1 at N1 ⊢
  generalize hn2 : Wire.num ((p.drop 2).take 4) = n2 at N2 ⊢
  generalize hn3 : Wire.num ((p.drop 6).take 6) = n3 at N3 ⊢
  generalize hn4 : Wire.num ((p.drop 12).take 6) = n4 at N4 ⊢
  generalize hn5 : Wire.num ((p.drop 18).take 5) = n5 at N5 ⊢
  generalize hp1 : p.drop 1 = p1 at *
  generalize hp2 : p.drop 2 = p2 at *
  generalize hp6 : p.drop 6 = p6 at *
  generalize hp12 : p.drop 12 = p12 at *
  generalize hp18 : p.drop 18 = p18 at *
  generalize hp23 : p.drop 23 = p23 at *
  have C0 : Hid (∀ (w0 : World) lo g gi W, Ps w0 lo g gi false p W → Calls Tryz.prog 83 #[.int .i64 1, .pointer (some ⟨gi, 0, none⟩)] W fun r w' => r = .returned (.int .i64 (n0 : Int)) ∧ Ps w0 lo g gi false p1 w') := fun w0 lo g gi W h =>
    hdnext_any w0 lo g gi p p1 1 1 n0 rfl (by decide) (by decide) (by omega) hn0 hp1 W h
  have C1 : Hid (∀ (w0 : World) lo g gi W, Ps w0 lo g gi false p1 W → Calls Tryz.prog 83 #[.int .i64 1, .pointer (some ⟨gi, 0, none⟩)] W fun r w' => r = .returned (.int .i64 (n1 : Int)) ∧ Ps w0 lo g gi false p2 w') := fun w0 lo g gi W h =>
    hdnext_any w0 lo g gi p1 p2 1 1 n1 rfl (by decide) (by decide) (by have := L1.out; omega) hn1 D2.out W h
  have C2 : Hid (∀ (w0 : World) lo g gi W, Ps w0 lo g gi false p2 W → Calls Tryz.prog 83 #[.int .i64 4, .pointer (some ⟨gi, 0, none⟩)] W fun r w' => r = .returned (.int .i64 (n2 : Int)) ∧ Ps w0 lo g gi false p6 w') := fun w0 lo g gi W h =>
    hdnext_any w0 lo g gi p2 p6 4 4 n2 rfl (by decide) (by decide) (by have := L2.out; omega) hn2 D6.out W h
  have C3 : Hid (∀ (w0 : World) lo g gi W, Ps w0 lo g gi false p6 W → Calls Tryz.prog 83 #[.int .i64 6, .pointer (some ⟨gi, 0, none⟩)] W fun r w' => r = .returned (.int .i64 (n3 : Int)) ∧ Ps w0 lo g gi false p12 w') := fun w0 lo g gi W h =>
    hdnext_any w0 lo g gi p6 p12 6 6 n3 rfl (by decide) (by decide) (by have := L6.out; omega) hn3 D12.out W h
  have C4 : Hid (∀ (w0 : World) lo g gi W, Ps w0 lo g gi false p12 W → Calls Tryz.prog 83 #[.int .i64 6, .pointer (some ⟨gi, 0, none⟩)] W fun r w' => r = .returned (.int .i64 (n4 : Int)) ∧ Ps w0 lo g gi false p18 w') := fun w0 lo g gi W h =>
    hdnext_any w0 lo g gi p12 p18 6 6 n4 rfl (by decide) (by decide) (by have := L12.out; omega) hn4 D18.out W h
  have C5 : Hid (∀ (w0 : World) lo g gi W, Ps w0 lo g gi false p18 W → Calls Tryz.prog 83 #[.int .i64 5, .pointer (some ⟨gi, 0, none⟩)] W fun r w' => r = .returned (.int .i64 (n5 : Int)) ∧ Ps w0 lo g gi false p23 w') := fun w0 lo g gi W h =>
    hdnext_any w0 lo g gi p18 p23 5 5 n5 rfl (by decide) (by decide) (by have := L18.out; omega) hn5 D23.out W h
  rw [HZ0.out]
  have CZ : Hid (∀ (lo g : Nat) (W : World), Rdr W lo g false p23 → Calls Tryz.prog 85 #[.pointer (some ⟨g, 0, none⟩), .int .i64 (p23.length : Int)] W fun r w' => r = .returned (.tuple #[]) ∧ ∃ l', Rdr w' lo g (!p23.all (· == 0)) l' ∧ W.grownBy w' (some g)) := fun lo g W h => by
    refine (zeros_ok lo g p23 _ p23.length rfl (Nat.le_refl _) W h).mono ?_
    rintro r w' ⟨rfl, h1, h2⟩
    rw [List.take_length] at h1
    exact ⟨rfl, _, h1, h2⟩
  generalize p23.all (· == 0) = z at *
  have HNR : Hid (∀ o : Obj, Calls Tryz.prog 82 #[.slice A 59 c] (w.alloc o) (NewRd (w.alloc o) p)) := fun o =>
    newreader_any A B 59 c p _ hs.1 hl (by decide) (hb.below ((Below.refl _ w).alloc (Nat.le_refl _) o) hB)
  clear hs hl hb hn0 hn1 hn2 hn3 hn4 hn5 hp1 hp2 hp6 hp12 hp18 hp23 N0 N1 N2 N3 N4 N5 D1 D2 D6 D12 D18 D23 L1 L2 L6 L12 L18 HZ0
  have hmf : ∀ (fn : Fn) (first cap : Array Value) (w : World), (Instr.makeFunc fn first cap).run Tryz.prog w = .ok (.func fn first cap) w := fun _ _ _ _ => rfl
  have HS0 := Lib.hid (sd_new w #[.int .i64 0, .int .i64 0, .int .i64 0, .int .i64 0, .int .i64 0, .int .i64 0] 35)
  go_enter Tryz.func52, Tryz.ntmps52
  go_wp2_with fail
  refine (HNR.out _).mono ?_
  rintro r w1 ⟨g, rfl, hr1, hb1⟩
  generalize w.alloc (.cells #[.int .i64 0, .int .i64 0, .int .i64 0, .int .i64 0, .int .i64 0, .int .i64 0] 35) = w0 at *
  have H1 := Lib.hid (ps_first hr1 hb1)
  clear hr1 hb1
  go_wp2_with fail
  generalize w1.alloc (.cells #[.pointer (some ⟨g, 0, none⟩)] 128) = w2 at *
  refine (C0.out _ _ _ _ _ H1.out).mono ?_
  rintro r w3 ⟨rfl, h3⟩
  have H3 := Lib.hid h3; clear h3
  go_wp2_with fail
  refine (C1.out _ _ _ _ _ H3.out).mono ?_
  rintro r w4 ⟨rfl, h4⟩
  have H4 := Lib.hid h4; clear h4
  go_wp2_with fail
  refine (C2.out _ _ _ _ _ H4.out).mono ?_
  rintro r w5 ⟨rfl, h5⟩
  have H5 := Lib.hid h5; clear h5
  go_wp2_with fail
  refine (C3.out _ _ _ _ _ H5.out).mono ?_
  rintro r w6 ⟨rfl, h6⟩
  have H6 := Lib.hid h6; clear h6
  go_wp2_with fail
  refine (C4.out _ _ _ _ _ H6.out).mono ?_
  rintro r w7 ⟨rfl, h7⟩
  have H7 := Lib.hid h7; clear h7
  go_wp2_with fail
  refine (C5.out _ _ _ _ _ H7.out).mono ?_
  rintro r w8 ⟨rfl, h8⟩
  have H8 := Lib.hid h8; clear h8
  have HN : Hid ((w8.alloc (.cells #[.int .i64 (n0 : Int), .int .i64 (n1 : Int), .int .i64 (n2 : Int), .int .i64 (n3 : Int), .int .i64 (n4 : Int), .int .i64 (n5 : Int)] 35)).heap[w8.heap.size]? = some (.cells #[.int .i64 (n0 : Int), .int .i64 (n1 : Int), .int .i64 (n2 : Int), .int .i64 (n3 : Int), .int .i64 (n4 : Int), .int .i64 (n5 : Int)] 35 (0, 0))) := heap_alloc_new _ _
  have H9 := Lib.hid (H8.out.alloc (.cells #[.int .i64 (n0 : Int), .int .i64 (n1 : Int), .int .i64 (n2 : Int), .int .i64 (n3 : Int), .int .i64 (n4 : Int), .int .i64 (n5 : Int)] 35))
  have HG : Hid (g < w8.heap.size) := H8.out.1.lt
  go_wp2_with fail
  generalize w8.alloc (.cells #[.int .i64 (n0 : Int), .int .i64 (n1 : Int), .int .i64 (n2 : Int), .int .i64 (n3 : Int), .int .i64 (n4 : Int), .int .i64 (n5 : Int)] 35) = w9 at *
  have hc9 := H9.out.cell
  refine wp_region_still_tail 3 (by kernel_rfl) (by kernel_rfl) ?_
  simp only [List.take_succ_cons, List.take_zero, List.drop_succ_cons, List.drop_zero]
  iterate 2 still_step
  still_call ((rest_any w0.heap.size g false p23 w9.drew H9.out.1).mono fun _ _ h => ⟨h.1, h.2.symm⟩)
  refine wpStill_nil ?_
  change wpList _ _ _ _ _ w9.drew
  have H9d : Hid (Ps w0 w0.heap.size g w1.heap.size false p23 w9.drew) := ⟨H9.out.1, H9.out.2.1, H9.out.2.2.1.drew, H9.out.2.2.2⟩
  have HNd : Hid (w9.drew.heap[w8.heap.size]? = some (.cells #[.int .i64 (n0 : Int), .int .i64 (n1 : Int), .int .i64 (n2 : Int), .int .i64 (n3 : Int), .int .i64 (n4 : Int), .int .i64 (n5 : Int)] 35 (0, 0))) := HN.out
  clear hc9 H9 HN
  generalize w9.drew = wd at *
  have hc9 := H9d.out.cell
  go_wp2_with fail
  refine (CZ.out w0.heap.size g _ H9d.out.1).mono ?_
  rintro r w10 ⟨rfl, l', hr10, hg10⟩
  have H10 : Hid (Ps w0 w0.heap.size g w1.heap.size (!z) l' w10) := Ps.next (W := wd) H9d.out hr10 ⟨hg10.os, hg10.tape, hg10.output, hg10.size, hg10.block⟩
  have HG10 : Hid (wd.grownBy w10 (some g)) := ⟨hg10.os, hg10.tape, hg10.output, hg10.size, hg10.block⟩
  clear hr10 hg10
  have HN10 : Hid (w10.heap[w8.heap.size]? = some (.cells #[.int .i64 (n0 : Int), .int .i64 (n1 : Int), .int .i64 (n2 : Int), .int .i64 (n3 : Int), .int .i64 (n4 : Int), .int .i64 (n5 : Int)] 35 (0, 0))) := (HG10.out.block _ (Array.getElem?_eq_some_iff.1 HNd.out).1 (fun e => by injection e with e; have := HG.out; omega)).trans HNd.out
  have HLW : Hid (w.heap.size < w0.heap.size) := HS0.out.lt
  have HR10 : Hid (w10.heap[w.heap.size]? = some (.cells #[.int .i64 0, .int .i64 0, .int .i64 0, .int .i64 0, .int .i64 0, .int .i64 0] 35 (0, 0))) := (H10.out.2.2.1.block _ HLW.out).trans HS0.out.1
  have HBW : Hid (Below w.heap.size w w10) := HS0.out.2.trans (H10.out.2.2.1.mono HS0.out.2.size)
  have HOK : Hid (∀ W, Rdr W w0.heap.size g (!z) l' → Calls Tryz.prog 87 #[.pointer (some ⟨g, 0, none⟩)] W fun r w' => r = .returned (.bool z) ∧ W = w') := fun W h => by
    have h2 := ok_any w0.heap.size g (!z) l' W h
    rwa [Bool.not_not] at h2
  have hc10 := H10.out.cell
  obtain ⟨y0, y1, y2, y3, y4, y5⟩ := six_cells HN10.out
  go_wp2_with fail
  refine wp_region_still_tail 3 (by kernel_rfl) (by kernel_rfl) ?_
  simp only [List.take_succ_cons, List.take_zero, List.drop_succ_cons, List.drop_zero]
  iterate 2 still_step
  still_call ((HOK.out w10.drew H10.out.1).mono fun _ _ h => ⟨h.1, h.2.symm⟩)
  refine wpStill_nil ?_
  change wpList _ _ _ _ _ w10.drew
  have HRd : Hid (w10.drew.heap[w.heap.size]? = some (.cells #[.int .i64 0, .int .i64 0, .int .i64 0, .int .i64 0, .int .i64 0, .int .i64 0] 35 (0, 0))) := HR10.out
  have HBd : Hid (Below w.heap.size w w10.drew) := HBW.out.drew
  clear hc10 y0 y1 y2 y3 y4 y5 HR10 HBW HN10 H10 HOK
  generalize w10.drew = wz at *
  obtain ⟨f0, f1, f2, f3, f4, f5⟩ := six_frozen HRd.out
  obtain ⟨y0, y1, y2, y3, y4, y5⟩ := six_cells HRd.out
  go_wp2_with fail
  (try simp only [Exit.inBlock, Exit.then])
  refine bodyPost_ret (results_row2 rfl _ _ w.heap.size _ _ (0, 0) _ rfl (stored6 HRd.out) Tryz.underlying35 rfl (by kernel_rfl)) rfl ?_
  exact ⟨rfl, HBd.out.trans (below_of_grown (stored6_grown _ _ _ _ _ _ _ _) (Nat.le_refl _) HBd.out.size)⟩
end Go.Proofs.YtgnbmmceffolmaaGreatDoor
end
section
set_option maxRecDepth 100000
namespace Go.Proofs.YtgnbmmceffolmaaGreatDoor
open Go.RowKit
/-- No header was decoded. -/
def NoHd (w : World) (r : Ending) (w' : World) : Prop := r = .returned (.tuple #[.agg #[.int .i64 0, .int .i64 0, .int .i64 0, .int .i64 0, .int .i64 0, .int .i64 0], .bool false]) ∧ Below w.heap.size w w'
/-- A header was decoded. -/
def GotHd (w : World) (h : Hd.H) (r : Ending) (w' : World) : Prop := r = .returned (.tuple #[.agg #[.int .i64 h.ver, .int .i64 h.slot, .int .i64 h.lay, .int .i64 h.seq, .int .i64 h.tail, .int .i64 h.now], .bool true]) ∧ Below w.heap.size w w'
theorem sd_far {w w1 : World} {cs cs' : Array Value} {t t' : TypeId} (h : Sd w w.heap.size (.cells cs t (0, 0)) w1) (hlt : w.heap.size < w1.heap.size) : Sd w w.heap.size (.cells cs t (0, 0)) (w1.alloc (.cells cs' t')) :=
  ⟨(heap_alloc_old _ _ hlt).trans h.1, h.2.alloc h.2.size _⟩
theorem res6 {w w1 : World} {a b c d e f a' b' c' d' e' f' : Value} {t : TypeId} (h : Sd w w.heap.size (.cells #[a, b, c, d, e, f] t (0, 0)) w1) :
    Below w.heap.size w ((((((w1.setCell ⟨w.heap.size, 0, none⟩ a').setCell ⟨w.heap.size, 1, none⟩ b').setCell ⟨w.heap.size, 2, none⟩ c').setCell ⟨w.heap.size, 3, none⟩ d').setCell ⟨w.heap.size, 4, none⟩ e').setCell ⟨w.heap.size, 5, none⟩ f') :=
  h.2.trans (below_of_grown (stored6_grown _ _ _ _ _ _ _ _) (Nat.le_refl _) h.2.size)
set_option maxHeartbeats 2000000 in
theorem hddecode_any (x : Int) (A : Option Addr) (B n c : Nat) (l : List Nat) (w : World) (hB : B ≤ w.heap.size) (hs : SlIs A n c) (hl : Hid (l.length = n)) (hb : Hid (Bs w B A l)) (ht : Hid (TabW w)) (hz : 0 < w.heap.size) :
    Calls Tryz.prog 23 #[.slice A n c, .int .i64 x] w fun r w' => (Hd.good x l ∧ GotHd w (Hd.rd (Rc.sub l 1 59)) r w') ∨ (¬ Hd.good x l ∧ NoHd w r w') := by
  have HD : Hid (∀ W, Below w.heap.size w W → Calls Tryz.prog 51 #[.int .i64 1, .int .i64 0, .int .i64 x, .slice A n c] W fun e w' => (Fr.good 1 0 x l ∧ GotFr W (Rc.sub l 1 59) e w') ∨ (¬ Fr.good 1 0 x l ∧ NoFr W e w')) := fun W hW =>
    frdecode_any 1 0 x A B n c l W (by decide) (Nat.le_trans hB hW.size) hs hl (hb.out.below hW hB) (ht.out.below hW hz) (Nat.lt_of_lt_of_le hz hW.size)
  have HPA : Hid (Fr.good 1 0 x l → ∀ W A1 c1, SlIs A1 59 c1 → Bs W W.heap.size A1 (Rc.sub l 1 59) → Calls Tryz.prog 52 #[.slice A1 59 c1] W fun r w' => r = .returned (.tuple #[.agg #[.int .i64 (Hd.rd (Rc.sub l 1 59)).ver, .int .i64 (Hd.rd (Rc.sub l 1 59)).slot, .int .i64 (Hd.rd (Rc.sub l 1 59)).lay, .int .i64 (Hd.rd (Rc.sub l 1 59)).seq, .int .i64 (Hd.rd (Rc.sub l 1 59)).tail, .int .i64 (Hd.rd (Rc.sub l 1 59)).now], .bool (Hd.rest0 (Rc.sub l 1 59))]) ∧ Below W.heap.size W w') := fun hg W A1 c1 h1 h2 =>
    hdparse_any A1 W.heap.size c1 _ W (Nat.le_refl _) h1 (Fr.sub59 l hg.2.1) h2
  have HV : Hid (∀ W, Calls Tryz.prog 53 #[.agg #[.int .i64 (Hd.rd (Rc.sub l 1 59)).ver, .int .i64 (Hd.rd (Rc.sub l 1 59)).slot, .int .i64 (Hd.rd (Rc.sub l 1 59)).lay, .int .i64 (Hd.rd (Rc.sub l 1 59)).seq, .int .i64 (Hd.rd (Rc.sub l 1 59)).tail, .int .i64 (Hd.rd (Rc.sub l 1 59)).now]] W fun r w' => r = .returned (.bool (decide (Hd.valid (Hd.rd (Rc.sub l 1 59))))) ∧ Below W.heap.size W w') := fun W => hdvalid_any _ _ _ _ _ _ W
  have HG : Hid (Hd.good x l ↔ Fr.good 1 0 x l ∧ Hd.valid (Hd.rd (Rc.sub l 1 59)) ∧ Hd.rest0 (Rc.sub l 1 59) = true) := Iff.rfl
  clear hs hl hb ht
  unfold GotFr NoFr at HD
  generalize Rc.sub l 1 59 = p at *
  generalize Hd.rest0 p = z at *
  generalize Fr.good 1 0 x l = G at *
  generalize Hd.good x l = HGd at *
  generalize Hd.rd p = h at *
  obtain ⟨h0, h1, h2, h3, h4, h5⟩ := h
  unfold GotHd NoHd
  have HS0 := Lib.hid (sd_new w #[.int .i64 0, .int .i64 0, .int .i64 0, .int .i64 0, .int .i64 0, .int .i64 0] 35)
  simp only at HPA HV ⊢
  go_enter Tryz.func23, Tryz.ntmps23
  go_wp2_with fail
  generalize w.alloc (.cells #[.int .i64 0, .int .i64 0, .int .i64 0, .int .i64 0, .int .i64 0, .int .i64 0] 35) = w0 at *
  refine (HD.out _ HS0.out.2).mono ?_
  rintro r w1 (⟨hg, A1, c1, rfl, hs1, hbs1, hb1⟩ | ⟨hg, rfl, hb1⟩)
  · have HS1 := Lib.hid (HS0.out.next hb1 (by rfl) (by rfl) (by rfl) (by rfl))
    have HP1 := Lib.hid (HPA.out hg w1 A1 c1 hs1 hbs1.bs)
    have HGG : Hid (HGd ↔ Hd.valid ⟨h0, h1, h2, h3, h4, h5⟩ ∧ z = true) := HG.out.trans ⟨fun h => h.2, fun h => ⟨hg, h⟩⟩
    clear hb1 hs1 hbs1 hg HPA HD HG
    go_wp2_with fail
    refine HP1.out.mono ?_
    rintro r w2 ⟨rfl, hb2⟩
    have HS2 := Lib.hid (HS1.out.next hb2 (by rfl) (by rfl) (by rfl) (by rfl))
    have HS3 := Lib.hid (sd_far (cs' := #[.int .i64 h0, .int .i64 h1, .int .i64 h2, .int .i64 h3, .int .i64 h4, .int .i64 h5]) (t' := 35) HS2.out HS2.out.lt)
    have HN3 : Hid ((w2.alloc (.cells #[.int .i64 h0, .int .i64 h1, .int .i64 h2, .int .i64 h3, .int .i64 h4, .int .i64 h5] 35)).heap[w2.heap.size]? = some (.cells #[.int .i64 h0, .int .i64 h1, .int .i64 h2, .int .i64 h3, .int .i64 h4, .int .i64 h5] 35 (0, 0))) := heap_alloc_new _ _
    clear hb2
    cases z with
    | false =>
      have HF : Hid (¬ HGd) := fun h => by have := (HGG.out.1 h).2; cases this
      obtain ⟨y0, y1, y2, y3, y4, y5⟩ := six_cells HS3.out.1
      obtain ⟨f0, f1, f2, f3, f4, f5⟩ := six_frozen HS3.out.1
      go_wp2_with fail
      (try simp only [Exit.inBlock, Exit.then])
      refine bodyPost_ret (results_row2 rfl _ _ w.heap.size _ _ (0, 0) _ rfl (stored6 HS3.out.1) Tryz.underlying35 rfl (by kernel_rfl)) rfl ?_
      exact .inr ⟨HF.out, rfl, res6 HS3.out⟩
    | true =>
      have HVC : (Hd.valid ⟨h0, h1, h2, h3, h4, h5⟩ ∧ Hid HGd ∧ Hid (∀ W, Calls Tryz.prog 53 #[.agg #[.int .i64 h0, .int .i64 h1, .int .i64 h2, .int .i64 h3, .int .i64 h4, .int .i64 h5]] W fun r w' => r = .returned (.bool true) ∧ Below W.heap.size W w')) ∨ (Hid (¬ HGd) ∧ Hid (∀ W, Calls Tryz.prog 53 #[.agg #[.int .i64 h0, .int .i64 h1, .int .i64 h2, .int .i64 h3, .int .i64 h4, .int .i64 h5]] W fun r w' => r = .returned (.bool false) ∧ Below W.heap.size W w')) := by
        by_cases hv : Hd.valid ⟨h0, h1, h2, h3, h4, h5⟩
        · rw [decide_eq_true hv] at HV
          exact .inl ⟨hv, HGG.out.2 ⟨hv, rfl⟩, HV⟩
        · rw [decide_eq_false hv] at HV
          exact .inr ⟨fun h => hv (HGG.out.1 h).1, HV⟩
      clear HV HGG
      rcases HVC with ⟨-, HF, HV⟩ | ⟨HF, HV⟩
      · go_wp2_with fail
        generalize w2.alloc (.cells #[.int .i64 h0, .int .i64 h1, .int .i64 h2, .int .i64 h3, .int .i64 h4, .int .i64 h5] 35) = w3 at *
        refine (HV.out _).mono ?_
        rintro r w4 ⟨rfl, hb4⟩
        have HS4 := Lib.hid (HS3.out.next hb4 (by rfl) (by rfl) (by rfl) (by rfl))
        have HN4 : Hid (w4.heap[w2.heap.size]? = some (.cells #[.int .i64 h0, .int .i64 h1, .int .i64 h2, .int .i64 h3, .int .i64 h4, .int .i64 h5] 35 (0, 0))) := (hb4.block _ (Array.getElem?_eq_some_iff.1 HN3.out).1).trans HN3.out
        clear hb4
        obtain ⟨z0, z1, z2, z3, z4, z5⟩ := six_cells HN4.out
        obtain ⟨y0, y1, y2, y3, y4, y5⟩ := six_cells HS4.out.1
        obtain ⟨f0, f1, f2, f3, f4, f5⟩ := six_frozen HS4.out.1
        go_wp2_with fail
        (try simp only [Exit.inBlock, Exit.then])
        refine bodyPost_ret (results_row2 rfl _ _ w.heap.size _ _ (0, 0) _ rfl (stored6 HS4.out.1) Tryz.underlying35 rfl (by kernel_rfl)) rfl ?_
        exact .inl ⟨HF.out, rfl, res6 HS4.out⟩
      · go_wp2_with fail
        generalize w2.alloc (.cells #[.int .i64 h0, .int .i64 h1, .int .i64 h2, .int .i64 h3, .int .i64 h4, .int .i64 h5] 35) = w3 at *
        refine (HV.out _).mono ?_
        rintro r w4 ⟨rfl, hb4⟩
        have HS4 := Lib.hid (HS3.out.next hb4 (by rfl) (by rfl) (by rfl) (by rfl))
        clear hb4
        obtain ⟨y0, y1, y2, y3, y4, y5⟩ := six_cells HS4.out.1
        obtain ⟨f0, f1, f2, f3, f4, f5⟩ := six_frozen HS4.out.1
        go_wp2_with fail
        (try simp only [Exit.inBlock, Exit.then])
        refine bodyPost_ret (results_row2 rfl _ _ w.heap.size _ _ (0, 0) _ rfl (stored6 HS4.out.1) Tryz.underlying35 rfl (by kernel_rfl)) rfl ?_
        exact .inr ⟨HF.out, rfl, res6 HS4.out⟩
  · have HS1 := Lib.hid (HS0.out.next hb1 (by rfl) (by rfl) (by rfl) (by rfl))
    have HF : Hid (¬ HGd) := fun h => hg (HG.out.1 h).1
    clear hb1 hg
    obtain ⟨y0, y1, y2, y3, y4, y5⟩ := six_cells HS1.out.1
    obtain ⟨f0, f1, f2, f3, f4, f5⟩ := six_frozen HS1.out.1
    go_wp2_with fail
    (try simp only [Exit.inBlock, Exit.then])
    refine bodyPost_ret (results_row2 rfl _ _ w.heap.size _ _ (0, 0) _ rfl (stored6 HS1.out.1) Tryz.underlying35 rfl (by kernel_rfl)) rfl ?_
    exact .inr ⟨HF.out, rfl, res6 HS1.out⟩
end Go.Proofs.YtgnbmmceffolmaaGreatDoor
end
section
set_option maxRecDepth 100000
namespace Go.Proofs.YtgnbmmceffolmaaGreatDoor
open Go.RowKit
theorem drew_alloc_new (w : World) (o : Obj) : (w.alloc o).drew.heap[w.heap.size]? = some o := heap_alloc_new w o
theorem num_one (l : List Nat) (h : 0 < l.length) : Wire.num (l.take 1) = l.getD 0 0 := by
  match l, h with
  | x :: l, _ => simp [Wire.num]
theorem num_second (l : List Nat) (h : 1 < l.length) : Wire.num ((l.drop 1).take 1) = l.getD 1 0 := by
  match l, h with
  | x :: y :: l, _ => simp [Wire.num]
theorem wrap_small64 (n : Nat) (h : n < 281474976710656) : IntKind.i64.wrap (n : Int) = (n : Int) := by
  rw [IntKind.wrap_i64]; omega
/-- A part of the payload, for the reader of numbers. -/
theorem part_bs {w : World} {B : Nat} {ad : Addr} {p : List Nat} (h : Bs w B (some ad) p) (i k : Nat) (hi : 0 < i) : Bs w B (some ⟨ad.block, ad.off + i, none⟩) ((p.drop i).take k) := by
  have h1 := ((h.bsIn.drop i).bs).take k
  rwa [Option.map_some, add_pos ad i hi] at h1
set_option maxHeartbeats 4000000 in
theorem refhddec_any (x : Int) (A : Option Addr) (B n c : Nat) (l : List Nat) (w : World) (hB : B ≤ w.heap.size) (hs : SlIs A n c) (hl : Hid (l.length = n)) (hb : Hid (Bs w B A l)) (hn : n ≤ 140737488355328) :
    Calls Tryz.prog 25 #[.slice A n c, .int .i64 x] w fun r w' => (Hd.good x l ∧ GotHd w (Hd.rd (Rc.sub l 1 59)) r w') ∨ (¬ Hd.good x l ∧ NoHd w r w') := by
  have HD : Hid (∀ W, Below w.heap.size w W → Calls Tryz.prog 55 #[.int .i64 1, .int .i64 0, .int .i64 x, .slice A n c] W fun e w' => (Fr.good 1 0 x l ∧ GotFr W (Rc.sub l 1 59) e w') ∨ (¬ Fr.good 1 0 x l ∧ NoFr W e w')) := fun W hW =>
    reffrdec_any 1 0 x A B n c l W (by decide) (Nat.le_trans hB hW.size) hs hl (hb.out.below hW hB)
  have HBL : Hid (∀ W, Below w.heap.size w W → Bs W B A l) := fun W hW => hb.out.below hW hB
  have HPL : Hid (Fr.good 1 0 x l → (Rc.sub l 1 59).length = 59 ∧ (∀ y ∈ Rc.sub l 1 59, y < 256) ∧ (Hd.enc x (Hd.rd (Rc.sub l 1 59)) = l ↔ Hd.rest0 (Rc.sub l 1 59) = true) ∧ 0 ≤ x ∧ x < 1048576) := fun h =>
    ⟨Fr.sub59 l h.2.1, sub_lt hb.out.lt _ _, Hd.again x l hb.out.lt h, h.1.2.2.2.1, h.1.2.2.2.2⟩
  have HG : Hid (Hd.good x l ↔ Fr.good 1 0 x l ∧ Hd.valid (Hd.rd (Rc.sub l 1 59)) ∧ Hd.rest0 (Rc.sub l 1 59) = true) := Iff.rfl
  have hnc := hs.2.1
  have hc63 := hs.2.2
  clear hs hb
  unfold GotFr NoFr at HD
  generalize Rc.sub l 1 59 = p at *
  generalize Hd.rest0 p = z at *
  generalize Fr.good 1 0 x l = G at *
  generalize Hd.good x l = HGd at *
  unfold GotHd NoHd
  have HRH : Hid (∀ v, v = Hd.rd p → Hd.rd p = v) := fun _ e => e.symm
  generalize hrd : Hd.rd p = h at *
  obtain ⟨v0, v1, v2, v3, v4, v5⟩ := h
  have HRE0 : Hid (Hd.rd p = ⟨v0, v1, v2, v3, v4, v5⟩) := hrd
  clear hrd HRH
  obtain ⟨b0, HE0⟩ : ∃ b, Hid (p.getD 0 0 = b) := ⟨_, rfl⟩
  obtain ⟨b1, HE1⟩ : ∃ b, Hid (p.getD 1 0 = b) := ⟨_, rfl⟩
  simp only
  have HS0 := Lib.hid (sd_new w #[.int .i64 0, .int .i64 0, .int .i64 0, .int .i64 0, .int .i64 0, .int .i64 0] 35)
  go_enter Tryz.func25, Tryz.ntmps25
  go_wp2_with fail
  generalize w.alloc (.cells #[.int .i64 0, .int .i64 0, .int .i64 0, .int .i64 0, .int .i64 0, .int .i64 0] 35) = w0 at *
  refine (HD.out _ HS0.out.2).mono ?_
  rintro r w1 (⟨hg, A1, c1, rfl, hs1, hbs1, hb1⟩ | ⟨hg, rfl, hb1⟩)
  · have HS1 := Lib.hid (HS0.out.next hb1 (by rfl) (by rfl) (by rfl) (by rfl))
    obtain ⟨hpl, hplt, hag, hx⟩ := HPL.out hg
    have HP := Lib.hid (And.intro hpl hplt)
    have HAG := Lib.hid hag
    have HX := Lib.hid hx
    have HGG : Hid (HGd ↔ Hd.valid ⟨v0, v1, v2, v3, v4, v5⟩ ∧ z = true) := HG.out.trans ⟨fun h => h.2, fun h => ⟨hg, h⟩⟩
    obtain ⟨ad, rfl⟩ : ∃ ad, A1 = some ad := by
      cases A1 with
      | none => have := hs1.1 rfl; omega
      | some ad => exact ⟨ad, rfl⟩
    have hbp := hbs1.bs
    have hc59 : 59 ≤ c1 := hs1.2.1
    have hc63' := hs1.2.2
    obtain ⟨hlt0, ad0, e0, hblk, hc0⟩ := hbp 0 (by omega)
    injection e0 with e0
    subst e0
    obtain ⟨hlt1, ad1, e1, -, hc1⟩ := hbp 1 (by omega)
    injection e1 with e1
    subst e1
    rw [add_pos ad 1 (by decide)] at hc1
    have hc0' : w1.cell? ad = some (.int .u8 ((p.getD 0 0 : Nat) : Int)) := hc0
    obtain ⟨nm, hnm⟩ : ∃ nm : Nat → Nat → Nat, ∀ i k, nm i k = Wire.num ((p.drop i).take (min k 6)) := ⟨_, fun _ _ => rfl⟩
    have hq : ∀ i k, nm i k < 281474976710656 := fun i k => by
      rw [hnm]
      exact num6 (p.drop i) (min k 6) (by omega) (fun y hy => hplt y (List.mem_of_mem_drop hy))
    have ewn : ∀ i k, IntKind.i64.wrap ((nm i k : Nat) : Int) = ((nm i k : Nat) : Int) := fun i k => wrap_small64 _ (hq i k)
    have HRD : Hid (Hd.rd p = ⟨(b0 : Int), (b1 : Int), (nm 2 4 : Int), (nm 6 6 : Int), (nm 12 6 : Int), (nm 18 5 : Int)⟩) := by
      show _ = _
      rw [← HE0.out, ← HE1.out, ← num_one p (by omega), ← num_second p (by omega), hnm, hnm, hnm, hnm]; rfl
    have NU : Hid (∀ (i k : Nat) (W : World), 0 < i ∧ i + k ≤ 59 ∧ k ≤ 6 → Bs W w1.heap.size (some ad) p → Calls Tryz.prog 56 #[.slice (some ⟨ad.block, ad.off + i, none⟩) k (c1 - i)] W fun e w' => e = .returned (.int .u64 (nm i k : Int)) ∧ W = w') := fun i k W hi h => by
      rw [hnm, Nat.min_eq_left hi.2.2]
      exact refnum_any _ w1.heap.size k (c1 - i) _ W (by show _ = _; rw [List.length_take, List.length_drop]; omega) (by omega) (part_bs h i k hi.1)
    have HBA : Hid (∀ o, Bs (w1.alloc o) w1.heap.size (some ad) p) := fun o => hbp.below ((Below.refl _ w1).alloc (Nat.le_refl _) o) (Nat.le_refl _)
    have HB0 : Hid (Bs w1 w1.heap.size (some ad) p) := hbp
    have eqs := HRE0.out.symm.trans HRD.out
    injection eqs with e0 e1 e2 e3 e4 e5
    subst e0 e1 e2 e3 e4 e5
    have hblk' : ad.block < w1.heap.size := hblk
    have hne : ¬ ad.block = w1.heap.size := by omega
    have hne' : ¬ w1.heap.size = ad.block := by omega
    have eb0 := wrap_small64 b0 (by rw [← HE0.out]; exact Nat.lt_trans (getD_lt hplt 0) (by decide))
    have eb1 := wrap_small64 b1 (by rw [← HE1.out]; exact Nat.lt_trans (getD_lt hplt 1) (by decide))
    rw [HE0.out] at hc0'
    rw [HE1.out] at hc1
    clear HRD HRE0 hc0 hg hpl hplt hag hx HD HG HPL hbs1 hs1 hbp hlt0 hlt1 hnm hq
    have i2 : (2 : Int) ≤ (c1 : Int) := by omega
    have i6 : (6 : Int) ≤ (c1 : Int) := by omega
    have i12 : (12 : Int) ≤ (c1 : Int) := by omega
    have i18 : (18 : Int) ≤ (c1 : Int) := by omega
    have i23 : (23 : Int) ≤ (c1 : Int) := by omega
    have j2 : c1 ≠ 2 := by omega
    have j6 : c1 ≠ 6 := by omega
    have j12 : c1 ≠ 12 := by omega
    have j18 : c1 ≠ 18 := by omega
    have hB1 := Lib.hid hb1.size
    clear hb1
    go_upto_region 4 with fail
    go_cut [8] (fun s wx => s = .pointer (some ⟨w1.heap.size, 0, none⟩) ∧ Hid (wx.heap[w1.heap.size]? = some (.cells #[.int .i64 (b0 : Int), .int .i64 (b1 : Int), .int .i64 (nm 2 4 : Int), .int .i64 (nm 6 6 : Int), .int .i64 (nm 12 6 : Int), .int .i64 (nm 18 5 : Int)] 35 (0, 0)) ∧ Below w1.heap.size w1 wx))
    case first =>
      go_region_held3 (fun W => W.cell? ad = some (.int .u8 (b0 : Int)) ∧ W.cell? ⟨ad.block, ad.off + 1, none⟩ = some (.int .u8 (b1 : Int)))
        (first
          | go_keep)
        (first
          | (go_at_call 56; refine (NU.out _ _ _ (by decide) (by first | exact HB0.out | exact HBA.out _)).mono ?_; rintro e w' ⟨rfl, rfl⟩))
      all_goals
        (try go_wp2_with fail)
        go_meet
        exact ⟨rfl, drew_alloc_new w1 _, ((Below.refl _ w1).alloc (Nat.le_refl _) _).drew⟩
    case rest =>
      obtain ⟨rfl, HC⟩ := hcut
      generalize wc = w2 at *
      have HS2 := Lib.hid (HS1.out.next HC.out.2 (by rfl) (by rfl) (by rfl) (by rfl))
      clear hc0' hc1 i2 i6 i12 i18 i23 j2 j6 j12 j18 ewn eb0 eb1 NU HBA HB0 hne hne' hblk' HS0
      obtain ⟨z0, z1, z2, z3, z4, z5⟩ := six_cells HC.out.1
      have HV := Lib.hid (fun W => refhdvalid_any (b0 : Int) (b1 : Int) (nm 2 4 : Int) (nm 6 6 : Int) (nm 12 6 : Int) (nm 18 5 : Int) W)
      by_cases hv : Hd.valid ⟨(b0 : Int), (b1 : Int), (nm 2 4 : Int), (nm 6 6 : Int), (nm 12 6 : Int), (nm 18 5 : Int)⟩
      · have HRE := Lib.hid (fun W => refhdenc_any (b0 : Int) (b1 : Int) (nm 2 4 : Int) (nm 6 6 : Int) (nm 12 6 : Int) (nm 18 5 : Int) x W hv HX.out)
        have HEL := Lib.hid (Hd.enc_length x ⟨(b0 : Int), (b1 : Int), (nm 2 4 : Int), (nm 6 6 : Int), (nm 12 6 : Int), (nm 18 5 : Int)⟩)
        have HGH : Hid (HGd ↔ Hd.enc x ⟨(b0 : Int), (b1 : Int), (nm 2 4 : Int), (nm 6 6 : Int), (nm 12 6 : Int), (nm 18 5 : Int)⟩ = l) := HGG.out.trans (Iff.trans ⟨fun h => h.2, fun h => ⟨hv, h⟩⟩ HAG.out.symm)
        rw [decide_eq_true hv] at HV
        clear hv HGG HAG HX
        generalize Hd.enc x ⟨(b0 : Int), (b1 : Int), (nm 2 4 : Int), (nm 6 6 : Int), (nm 12 6 : Int), (nm 18 5 : Int)⟩ = en at *
        go_wp2_with fail
        refine (HV.out _).mono ?_
        rintro r w3 ⟨rfl, hb3⟩
        have HS3 := Lib.hid (HS2.out.next hb3 (by rfl) (by rfl) (by rfl) (by rfl))
        have HC3 : Hid (w3.heap[w1.heap.size]? = some (.cells #[.int .i64 (b0 : Int), .int .i64 (b1 : Int), .int .i64 (nm 2 4 : Int), .int .i64 (nm 6 6 : Int), .int .i64 (nm 12 6 : Int), .int .i64 (nm 18 5 : Int)] 35 (0, 0))) := (hb3.block _ (Array.getElem?_eq_some_iff.1 HC.out.1).1).trans HC.out.1
        clear hb3 z0 z1 z2 z3 z4 z5
        obtain ⟨z0, z1, z2, z3, z4, z5⟩ := six_cells HC3.out
        go_wp2_with fail
        refine (HRE.out _).mono ?_
        rintro r w4 ⟨A4, c4, rfl, -, hbs4, hb4⟩
        have HS4 := Lib.hid (HS3.out.next hb4 (by rfl) (by rfl) (by rfl) (by rfl))
        have HC4 : Hid (w4.heap[w1.heap.size]? = some (.cells #[.int .i64 (b0 : Int), .int .i64 (b1 : Int), .int .i64 (nm 2 4 : Int), .int .i64 (nm 6 6 : Int), .int .i64 (nm 12 6 : Int), .int .i64 (nm 18 5 : Int)] 35 (0, 0))) := (hb4.block _ (Array.getElem?_eq_some_iff.1 HC3.out).1).trans HC3.out
        have HQ := Lib.hid (refeq_any A4 A w4.heap.size B 64 n c4 c en l w4 HEL.out hl (by decide) hn hbs4 (HBL.out _ HS4.out.2))
        clear hb4 hbs4 z0 z1 z2 z3 z4 z5
        by_cases he : en = l
        · rw [decide_eq_true he] at HQ
          have HF := Lib.hid (HGH.out.2 he)
          clear he HGH
          go_wp2_with fail
          refine HQ.out.mono ?_
          rintro r w5 ⟨rfl, k5, rfl⟩
          obtain ⟨z0, z1, z2, z3, z4, z5⟩ := six_cells HC4.out
          obtain ⟨y0, y1, y2, y3, y4, y5⟩ := six_cells HS4.out.1
          obtain ⟨f0, f1, f2, f3, f4, f5⟩ := six_frozen HS4.out.1
          go_wp2_with fail
          (try simp only [Exit.inBlock, Exit.then])
          refine bodyPost_ret (results_row2 rfl _ _ w.heap.size _ _ (0, 0) _ rfl (stored6 (w := w4.drewN k5) HS4.out.1) Tryz.underlying35 rfl (by kernel_rfl)) rfl ?_
          exact .inl ⟨HF.out, rfl, res6 (w1 := w4.drewN k5) ⟨HS4.out.1, below_drawn HS4.out.2 k5⟩⟩
        · rw [decide_eq_false he] at HQ
          have HF : Hid (¬ HGd) := fun h => he (HGH.out.1 h)
          clear he HGH
          go_wp2_with fail
          refine HQ.out.mono ?_
          rintro r w5 ⟨rfl, k5, rfl⟩
          obtain ⟨y0, y1, y2, y3, y4, y5⟩ := six_cells HS4.out.1
          obtain ⟨f0, f1, f2, f3, f4, f5⟩ := six_frozen HS4.out.1
          go_wp2_with fail
          (try simp only [Exit.inBlock, Exit.then])
          refine bodyPost_ret (results_row2 rfl _ _ w.heap.size _ _ (0, 0) _ rfl (stored6 (w := w4.drewN k5) HS4.out.1) Tryz.underlying35 rfl (by kernel_rfl)) rfl ?_
          exact .inr ⟨HF.out, rfl, res6 (w1 := w4.drewN k5) ⟨HS4.out.1, below_drawn HS4.out.2 k5⟩⟩
      · have HF : Hid (¬ HGd) := fun h => hv (HGG.out.1 h).1
        rw [decide_eq_false hv] at HV
        clear hv HGG HAG
        go_wp2_with fail
        refine (HV.out _).mono ?_
        rintro r w3 ⟨rfl, hb3⟩
        have HS3 := Lib.hid (HS2.out.next hb3 (by rfl) (by rfl) (by rfl) (by rfl))
        clear hb3 z0 z1 z2 z3 z4 z5
        obtain ⟨y0, y1, y2, y3, y4, y5⟩ := six_cells HS3.out.1
        obtain ⟨f0, f1, f2, f3, f4, f5⟩ := six_frozen HS3.out.1
        go_wp2_with fail
        (try simp only [Exit.inBlock, Exit.then])
        refine bodyPost_ret (results_row2 rfl _ _ w.heap.size _ _ (0, 0) _ rfl (stored6 HS3.out.1) Tryz.underlying35 rfl (by kernel_rfl)) rfl ?_
        exact .inr ⟨HF.out, rfl, res6 HS3.out⟩
  · have HS1 := Lib.hid (HS0.out.next hb1 (by rfl) (by rfl) (by rfl) (by rfl))
    have HF : Hid (¬ HGd) := fun h => hg (HG.out.1 h).1
    clear hb1 hg
    obtain ⟨y0, y1, y2, y3, y4, y5⟩ := six_cells HS1.out.1
    obtain ⟨f0, f1, f2, f3, f4, f5⟩ := six_frozen HS1.out.1
    go_wp2_with fail
    (try simp only [Exit.inBlock, Exit.then])
    refine bodyPost_ret (results_row2 rfl _ _ w.heap.size _ _ (0, 0) _ rfl (stored6 HS1.out.1) Tryz.underlying35 rfl (by kernel_rfl)) rfl ?_
    exact .inr ⟨HF.out, rfl, res6 HS1.out⟩
end Go.Proofs.YtgnbmmceffolmaaGreatDoor
end
section
namespace Go.Proofs.YtgnbmmceffolmaaGreatDoor
open Go
section
variable {P : Program} {ops : Array Oper} {Q : Exit → Act → World → Prop} {md : Region.Mode} {S : World → Prop}
theorem hold_two {i j : Nat} {oi oj : Oper} {n : Nat} {ls : Array Bool} {a : Act} {w : World} (hi : ops[i]? = some oi) (hj : ops[j]? = some oj) (hr : Region.ready md ops ls = [i, j]) (hwi : Region.wanted oi (yielded ops a.tmps) = true) (hwj : Region.wanted oj (yielded ops a.tmps) = true)
    (h1 : ∀ K : Act → World → Prop, (∀ b u, S u → wpAnyH P md ops Q S n (ls.setIfInBounds i true) b u → K b u) → Oper.wp P oi a w K Q)
    (h2 : ∀ K : Act → World → Prop, (∀ b u, S u → wpAnyH P md ops Q S n (ls.setIfInBounds j true) b u → K b u) → Oper.wp P oj a w K Q) : wpAnyH P md ops Q S (n + 1) ls a w := by
  refine ⟨fun e => (by rw [hr] at e; cases e), fun k hk => ?_⟩
  rw [hr] at hk
  have hk2 : k = i ∨ k = j := by simpa using hk
  rcases hk2 with rfl | rfl
  · refine wpOp_step hi fun K hK => ?_
    rw [if_pos hwi]
    exact h1 K fun b u hS hb => hK b u ⟨hS, hb⟩
  · refine wpOp_step hj fun K hK => ?_
    rw [if_pos hwj]
    exact h2 K fun b u hS hb => hK b u ⟨hS, hb⟩
end
end Go.Proofs.YtgnbmmceffolmaaGreatDoor
end
section
set_option maxRecDepth 100000
namespace Go.Proofs.YtgnbmmceffolmaaGreatDoor
open Go.RowKit
def recs (ds : List (Nat × Rd)) : List Rd := ds.map (·.2)
/-- What is known of a record that was put. -/
def DoneIs (w : World) (b : Int) (st : List Nat) (d : Nat × Rd) : Prop :=
  Rc.check b d.2.r = 0 ∧ Rc.place 7 (d.1 : Int) ∧ d.1 + Rc.len d.2.r ≤ st.length ∧ Rc.sub st d.1 (Rc.len d.2.r) = Rc.enc b 7 (d.1 : Int) d.2.r ∧ d.2.here w w.heap.size
def AllIs (w : World) (b : Int) (st : List Nat) (ds : List (Nat × Rd)) : Prop := ∀ d ∈ ds, DoneIs w b st d
theorem AllIs.more {w : World} {b : Int} {st : List Nat} {ds : List (Nat × Rd)} (h : AllIs w b st ds) (x : List Nat) : AllIs w b (st ++ x) ds := fun d hd => by
  obtain ⟨h1, h2, h3, h4, h5⟩ := h d hd
  exact ⟨h1, h2, by rw [List.length_append]; omega, by rw [Pk.sub_more _ _ _ _ h3]; exact h4, h5⟩
theorem cell_on {w w' : World} {ad : Addr} {v : Value} (hb : Below w.heap.size w w') (h : w.cell? ad = some v) : w'.cell? ad = some v := (hb.cell (World.block_lt_of_cell? _ _ h)).trans h
/-- Bytes that lie apart from a block. -/
def Off (w : World) (q : Nat) (A : Option Addr) (l : List Nat) : Prop := ∃ lo hi, BsIn w lo hi A l ∧ hi ≤ w.heap.size ∧ (q < lo ∨ hi ≤ q)
theorem Off.stored {w w' : World} {q : Nat} {A : Option Addr} {l : List Nat} (h : Off w q A l) (hg : w.grownBy w' (some q)) : Bs w' w'.heap.size A l := by
  obtain ⟨lo, hi, h1, h2, h3⟩ := h
  have h4 : BsIn w' lo hi A l := h1.keep fun x hx1 hx2 => hg.block x (by omega) (fun e => by injection e with e; omega)
  exact h4.bs.more (Nat.le_trans h2 hg.size)
end Go.Proofs.YtgnbmmceffolmaaGreatDoor
end
