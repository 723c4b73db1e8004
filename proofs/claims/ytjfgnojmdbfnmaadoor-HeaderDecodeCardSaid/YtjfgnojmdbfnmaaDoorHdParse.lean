/-
  The walks of header.parse and of its closure.
-/
import Derived.Test.YtjfgnojmdbfnmaaDoorHdEncode
import Derived.StillTailTactics
namespace Go.Proofs.YtjfgnojmdbfnmaaDoor
open Go.RowKit
theorem Sd.lt {w w1 : World} {r : Nat} {o : Obj} (h : Sd w r o w1) : r < w1.heap.size := (Array.getElem?_eq_some_iff.1 h.1).1
/-- While a header is read: the reader, the variable that holds it, all that was there before. -/
def Ps (w : World) (lo g gi : Nat) (bad : Bool) (l : List Nat) (W : World) : Prop :=
  Rdr W lo g bad l ∧ W.heap[gi]? = some (.cells #[.pointer (some ⟨g, 0, none⟩)] 77 (0, 0)) ∧ Below w.heap.size w W ∧ w.heap.size ≤ g ∧ g < gi
section
variable {w W W' : World} {lo g gi : Nat} {bad bad' : Bool} {l l' : List Nat}
theorem Ps.next (h : Ps w lo g gi bad l W) (hr : Rdr W' lo g bad' l') (hg : W.grownBy W' (some g)) : Ps w lo g gi bad' l' W' :=
  ⟨hr, (hg.block gi (Array.getElem?_eq_some_iff.1 h.2.1).1 (fun e => by injection e with e; have := h.2.2.2.2; omega)).trans h.2.1, h.2.2.1.trans (below_of_grown hg h.2.2.2.1 h.2.2.1.size), h.2.2.2⟩
theorem Ps.cell (h : Ps w lo g gi bad l W) : W.cell? ⟨gi, 0, none⟩ = some (.pointer (some ⟨g, 0, none⟩)) := by
  rw [cell_of_row W gi 0 _ _ (0, 0) h.2.1]; rfl
theorem Ps.alloc (h : Ps w lo g gi bad l W) (o : Obj) : Ps w lo g gi bad l (W.alloc o) :=
  ⟨h.1.below ((Below.refl _ W).alloc (Nat.le_refl _) o) h.1.lt, (heap_alloc_old _ _ (Array.getElem?_eq_some_iff.1 h.2.1).1).trans h.2.1, h.2.2.1.alloc h.2.2.1.size o, h.2.2.2⟩
theorem ps_first {w1 : World} (hr : Rdr w1 w.heap.size g false l) (hb : Below w.heap.size w w1) : Ps w w.heap.size g w1.heap.size false l (w1.alloc (.cells #[.pointer (some ⟨g, 0, none⟩)] 77)) :=
  ⟨hr.below ((Below.refl _ w1).alloc (Nat.le_refl _) _) hr.lt, heap_alloc_new w1 _, hb.alloc hb.size _, hr.lo_le, hr.lt⟩
end
theorem num6 (l : List Nat) (k : Nat) (hk : k ≤ 6) (h : ∀ x ∈ l, x < 256) : Wire.num (l.take k) < 281474976710656 := by
  have h1 := Wire.num_lt (l.take k) (fun x hx => h x (List.mem_of_mem_take hx))
  have h2 : (256 : Nat) ^ (l.take k).length ≤ 256 ^ 6 := Nat.pow_le_pow_right (by decide) (by rw [List.length_take]; omega)
  have h3 : (256 : Nat) ^ 6 = 281474976710656 := rfl
  omega
theorem hdnext_any (w0 : World) (lo g gi : Nat) (l l' : List Nat) (ki : Int) (k N : Nat) (hki : ki = (k : Int)) (h1 : 1 ≤ k) (h6 : k ≤ 6) (hk : k ≤ l.length) (hN : Wire.num (l.take k) = N) (hl' : l.drop k = l') (w : World) (h : Hid (Ps w0 lo g gi false l w)) :
    Calls Tryd.prog 57 #[.int .i64 ki, .pointer (some ⟨gi, 0, none⟩)] w fun r w' => r = .returned (.int .i64 (N : Int)) ∧ Ps w0 lo g gi false l' w' := by
  have hlt := num6 l k h6 h.out.1.bytes
  have HC := Lib.hid (num_ok lo g l ki k hki h1 (by omega) hk w h.out.1)
  unfold GotNum at HC
  rw [hN] at HC hlt
  rw [hl'] at HC
  have hc := h.out.cell
  clear hki h1 h6 hk hN hl'
  go_enter Tryd.func57, Tryd.ntmps57
  go_wp2_with fail
  refine HC.out.mono ?_
  rintro r w1 ⟨rfl, hr1, hg1⟩
  have H1 := Lib.hid (h.out.next hr1 hg1)
  clear hr1 hg1
  go_wp2
  go_ret
  exact ⟨rfl, H1.out⟩
set_option maxHeartbeats 2000000 in
theorem hdparse_any (A : Option Addr) (B c : Nat) (p : List Nat) (w : World) (hB : B ≤ w.heap.size) (hs : SlIs A 59 c) (hl : p.length = 59) (hb : Bs w B A p) :
    Calls Tryd.prog 37 #[.slice A 59 c] w fun r w' => r = .returned (.tuple #[.agg #[.int .i64 (Hd.rd p).ver, .int .i64 (Hd.rd p).slot, .int .i64 (Hd.rd p).lay, .int .i64 (Hd.rd p).seq, .int .i64 (Hd.rd p).tail, .int .i64 (Hd.rd p).now], .bool (Hd.rest0 p)]) ∧ Below w.heap.size w w' := by
  have HRD : Hid (Hd.rd p = ⟨(Wire.num (p.take 1) : Int), (Wire.num ((p.drop 1).take 1) : Int), (Wire.num ((p.drop 2).take 4) : Int), (Wire.num ((p.drop 6).take 6) : Int), (Wire.num ((p.drop 12).take 6) : Int), (Wire.num ((p.drop 18).take 5) : Int)⟩) := rfl
  rw [HRD.out]
  clear HRD
  have L1 : Hid ((p.drop 1).length = 58) := by show _ = _; rw [List.length_drop]; omega
  have L2 : Hid ((p.drop 2).length = 57) := by show _ = _; rw [List.length_drop]; omega
  have L6 : Hid ((p.drop 6).length = 53) := by show _ = _; rw [List.length_drop]; omega
  have L12 : Hid ((p.drop 12).length = 47) := by show _ = _; rw [List.length_drop]; omega
  have L18 : Hid ((p.drop 18).length = 41) := by show _ = _; rw [List.length_drop]; omega
  have D2 : Hid ((p.drop 1).drop 1 = p.drop 2) := List.drop_drop ..
  have D6 : Hid ((p.drop 2).drop 4 = p.drop 6) := List.drop_drop ..
  have D12 : Hid ((p.drop 6).drop 6 = p.drop 12) := List.drop_drop ..
  have D18 : Hid ((p.drop 12).drop 6 = p.drop 18) := List.drop_drop ..
  have D23 : Hid ((p.drop 18).drop 5 = p.drop 23) := List.drop_drop ..
  have HZ0 : Hid (Hd.rest0 p = (p.drop 23).all (· == 0)) := rfl
  have D1 : Hid (p.drop 1 = p.drop 1) := rfl
  have N0 : Hid (Wire.num (p.take 1) = Wire.num (p.take 1)) := rfl
  have N1 : Hid (Wire.num ((p.drop 1).take 1) = Wire.num ((p.drop 1).take 1)) := rfl
  have N2 : Hid (Wire.num ((p.drop 2).take 4) = Wire.num ((p.drop 2).take 4)) := rfl
  have N3 : Hid (Wire.num ((p.drop 6).take 6) = Wire.num ((p.drop 6).take 6)) := rfl
  have N4 : Hid (Wire.num ((p.drop 12).take 6) = Wire.num ((p.drop 12).take 6)) := rfl
  have N5 : Hid (Wire.num ((p.drop 18).take 5) = Wire.num ((p.drop 18).take 5)) := rfl
  generalize hn0 : Wire.num (p.take 1) = n0 at N0 ⊢
  generalize hn1 : Wire.num ((p.drop 1).take 1) = n1 at N1 ⊢
  generalize hn2 : Wire.num ((p.drop 2).take 4) = n2 at N2 ⊢
  generalize hn3 : Wire.num ((p.drop 6).take 6) = n3 at N3 ⊢
  generalize hn4 : Wire.num ((p.drop 12).take 6) = n4 at N4 ⊢
  generalize hn5 : Wire.num ((p.drop 18).take 5) = n5 at N5 ⊢
  generalize hp1 : p.drop 1 = p1 at *
  generalize hp2 : p.drop 2 = p2 at *
  generalize hp6 : p.drop 6 = p6 at *
  generalize hp12 : p.drop 12 = p12 at *
  generalize hp18 : p.drop 18 = p18 at *
  generalize hp23 : p.drop 23 = p23 at *
  have C0 : Hid (∀ (w0 : World) lo g gi W, Ps w0 lo g gi false p W → Calls Tryd.prog 57 #[.int .i64 1, .pointer (some ⟨gi, 0, none⟩)] W fun r w' => r = .returned (.int .i64 (n0 : Int)) ∧ Ps w0 lo g gi false p1 w') := fun w0 lo g gi W h =>
    hdnext_any w0 lo g gi p p1 1 1 n0 rfl (by decide) (by decide) (by omega) hn0 hp1 W h
  have C1 : Hid (∀ (w0 : World) lo g gi W, Ps w0 lo g gi false p1 W → Calls Tryd.prog 57 #[.int .i64 1, .pointer (some ⟨gi, 0, none⟩)] W fun r w' => r = .returned (.int .i64 (n1 : Int)) ∧ Ps w0 lo g gi false p2 w') := fun w0 lo g gi W h =>
    hdnext_any w0 lo g gi p1 p2 1 1 n1 rfl (by decide) (by decide) (by have := L1.out; omega) hn1 D2.out W h
  have C2 : Hid (∀ (w0 : World) lo g gi W, Ps w0 lo g gi false p2 W → Calls Tryd.prog 57 #[.int .i64 4, .pointer (some ⟨gi, 0, none⟩)] W fun r w' => r = .returned (.int .i64 (n2 : Int)) ∧ Ps w0 lo g gi false p6 w') := fun w0 lo g gi W h =>
    hdnext_any w0 lo g gi p2 p6 4 4 n2 rfl (by decide) (by decide) (by have := L2.out; omega) hn2 D6.out W h
  have C3 : Hid (∀ (w0 : World) lo g gi W, Ps w0 lo g gi false p6 W → Calls Tryd.prog 57 #[.int .i64 6, .pointer (some ⟨gi, 0, none⟩)] W fun r w' => r = .returned (.int .i64 (n3 : Int)) ∧ Ps w0 lo g gi false p12 w') := fun w0 lo g gi W h =>
    hdnext_any w0 lo g gi p6 p12 6 6 n3 rfl (by decide) (by decide) (by have := L6.out; omega) hn3 D12.out W h
  have C4 : Hid (∀ (w0 : World) lo g gi W, Ps w0 lo g gi false p12 W → Calls Tryd.prog 57 #[.int .i64 6, .pointer (some ⟨gi, 0, none⟩)] W fun r w' => r = .returned (.int .i64 (n4 : Int)) ∧ Ps w0 lo g gi false p18 w') := fun w0 lo g gi W h =>
    hdnext_any w0 lo g gi p12 p18 6 6 n4 rfl (by decide) (by decide) (by have := L12.out; omega) hn4 D18.out W h
  have C5 : Hid (∀ (w0 : World) lo g gi W, Ps w0 lo g gi false p18 W → Calls Tryd.prog 57 #[.int .i64 5, .pointer (some ⟨gi, 0, none⟩)] W fun r w' => r = .returned (.int .i64 (n5 : Int)) ∧ Ps w0 lo g gi false p23 w') := fun w0 lo g gi W h =>
    hdnext_any w0 lo g gi p18 p23 5 5 n5 rfl (by decide) (by decide) (by have := L18.out; omega) hn5 D23.out W h
  rw [HZ0.out]
  have CZ : Hid (∀ (lo g : Nat) (W : World), Rdr W lo g false p23 → Calls Tryd.prog 59 #[.pointer (some ⟨g, 0, none⟩), .int .i64 (p23.length : Int)] W fun r w' => r = .returned (.tuple #[]) ∧ ∃ l', Rdr w' lo g (!p23.all (· == 0)) l' ∧ W.grownBy w' (some g)) := fun lo g W h => by
    refine (zeros_ok lo g p23 _ p23.length rfl (Nat.le_refl _) W h).mono ?_
    rintro r w' ⟨rfl, h1, h2⟩
    rw [List.take_length] at h1
    exact ⟨rfl, _, h1, h2⟩
  generalize p23.all (· == 0) = z at *
  have HNR : Hid (∀ o : Obj, Calls Tryd.prog 56 #[.slice A 59 c] (w.alloc o) (NewRd (w.alloc o) p)) := fun o =>
    newreader_any A B 59 c p _ hs.1 hl (by decide) (hb.below ((Below.refl _ w).alloc (Nat.le_refl _) o) hB)
  clear hs hl hb hn0 hn1 hn2 hn3 hn4 hn5 hp1 hp2 hp6 hp12 hp18 hp23 N0 N1 N2 N3 N4 N5 D1 D2 D6 D12 D18 D23 L1 L2 L6 L12 L18 HZ0
  have hmf : ∀ (fn : Fn) (first cap : Array Value) (w : World), (Instr.makeFunc fn first cap).run Tryd.prog w = .ok (.func fn first cap) w := fun _ _ _ _ => rfl
  have HS0 := Lib.hid (sd_new w #[.int .i64 0, .int .i64 0, .int .i64 0, .int .i64 0, .int .i64 0, .int .i64 0] 23)
  go_enter Tryd.func37, Tryd.ntmps37
  go_wp2_with fail
  refine (HNR.out _).mono ?_
  rintro r w1 ⟨g, rfl, hr1, hb1⟩
  generalize w.alloc (.cells #[.int .i64 0, .int .i64 0, .int .i64 0, .int .i64 0, .int .i64 0, .int .i64 0] 23) = w0 at *
  have H1 := Lib.hid (ps_first hr1 hb1)
  clear hr1 hb1
  go_wp2_with fail
  generalize w1.alloc (.cells #[.pointer (some ⟨g, 0, none⟩)] 77) = w2 at *
  refine (C0.out _ _ _ _ _ H1.out).mono ?_
  rintro r w3 ⟨rfl, h3⟩
  have H3 := Lib.hid h3; clear h3
  go_wp2_with fail
  refine (C1.out _ _ _ _ _ H3.out).mono ?_
  rintro r w4 ⟨rfl, h4⟩
  have H4 := Lib.hid h4; clear h4
  go_wp2_with fail
  refine (C2.out _ _ _ _ _ H4.out).mono ?_
  rintro r w5 ⟨rfl, h5⟩
  have H5 := Lib.hid h5; clear h5
  go_wp2_with fail
  refine (C3.out _ _ _ _ _ H5.out).mono ?_
  rintro r w6 ⟨rfl, h6⟩
  have H6 := Lib.hid h6; clear h6
  go_wp2_with fail
  refine (C4.out _ _ _ _ _ H6.out).mono ?_
  rintro r w7 ⟨rfl, h7⟩
  have H7 := Lib.hid h7; clear h7
  go_wp2_with fail
  refine (C5.out _ _ _ _ _ H7.out).mono ?_
  rintro r w8 ⟨rfl, h8⟩
  have H8 := Lib.hid h8; clear h8
  have HN : Hid ((w8.alloc (.cells #[.int .i64 (n0 : Int), .int .i64 (n1 : Int), .int .i64 (n2 : Int), .int .i64 (n3 : Int), .int .i64 (n4 : Int), .int .i64 (n5 : Int)] 23)).heap[w8.heap.size]? = some (.cells #[.int .i64 (n0 : Int), .int .i64 (n1 : Int), .int .i64 (n2 : Int), .int .i64 (n3 : Int), .int .i64 (n4 : Int), .int .i64 (n5 : Int)] 23 (0, 0))) := heap_alloc_new _ _
  have H9 := Lib.hid (H8.out.alloc (.cells #[.int .i64 (n0 : Int), .int .i64 (n1 : Int), .int .i64 (n2 : Int), .int .i64 (n3 : Int), .int .i64 (n4 : Int), .int .i64 (n5 : Int)] 23))
  have HG : Hid (g < w8.heap.size) := H8.out.1.lt
  go_wp2_with fail
  generalize w8.alloc (.cells #[.int .i64 (n0 : Int), .int .i64 (n1 : Int), .int .i64 (n2 : Int), .int .i64 (n3 : Int), .int .i64 (n4 : Int), .int .i64 (n5 : Int)] 23) = w9 at *
  have hc9 := H9.out.cell
  refine wp_region_still_tail 3 (by kernel_rfl) (by kernel_rfl) ?_
  simp only [List.take_succ_cons, List.take_zero, List.drop_succ_cons, List.drop_zero]
  iterate 2 still_step
  still_call ((rest_any w0.heap.size g false p23 w9.drew H9.out.1).mono fun _ _ h => ⟨h.1, h.2.symm⟩)
  refine wpStill_nil ?_
  change wpList _ _ _ _ _ w9.drew
  have H9d : Hid (Ps w0 w0.heap.size g w1.heap.size false p23 w9.drew) := ⟨H9.out.1, H9.out.2.1, H9.out.2.2.1.drew, H9.out.2.2.2⟩
  have HNd : Hid (w9.drew.heap[w8.heap.size]? = some (.cells #[.int .i64 (n0 : Int), .int .i64 (n1 : Int), .int .i64 (n2 : Int), .int .i64 (n3 : Int), .int .i64 (n4 : Int), .int .i64 (n5 : Int)] 23 (0, 0))) := HN.out
  clear hc9 H9 HN
  generalize w9.drew = wd at *
  have hc9 := H9d.out.cell
  go_wp2_with fail
  refine (CZ.out w0.heap.size g _ H9d.out.1).mono ?_
  rintro r w10 ⟨rfl, l', hr10, hg10⟩
  have H10 : Hid (Ps w0 w0.heap.size g w1.heap.size (!z) l' w10) := Ps.next (W := wd) H9d.out hr10 ⟨hg10.os, hg10.tape, hg10.output, hg10.size, hg10.block⟩
  have HG10 : Hid (wd.grownBy w10 (some g)) := ⟨hg10.os, hg10.tape, hg10.output, hg10.size, hg10.block⟩
  clear hr10 hg10
  have HN10 : Hid (w10.heap[w8.heap.size]? = some (.cells #[.int .i64 (n0 : Int), .int .i64 (n1 : Int), .int .i64 (n2 : Int), .int .i64 (n3 : Int), .int .i64 (n4 : Int), .int .i64 (n5 : Int)] 23 (0, 0))) := (HG10.out.block _ (Array.getElem?_eq_some_iff.1 HNd.out).1 (fun e => by injection e with e; have := HG.out; omega)).trans HNd.out
  have HLW : Hid (w.heap.size < w0.heap.size) := HS0.out.lt
  have HR10 : Hid (w10.heap[w.heap.size]? = some (.cells #[.int .i64 0, .int .i64 0, .int .i64 0, .int .i64 0, .int .i64 0, .int .i64 0] 23 (0, 0))) := (H10.out.2.2.1.block _ HLW.out).trans HS0.out.1
  have HBW : Hid (Below w.heap.size w w10) := HS0.out.2.trans (H10.out.2.2.1.mono HS0.out.2.size)
  have HOK : Hid (∀ W, Rdr W w0.heap.size g (!z) l' → Calls Tryd.prog 61 #[.pointer (some ⟨g, 0, none⟩)] W fun r w' => r = .returned (.bool z) ∧ W = w') := fun W h => by
    have h2 := ok_any w0.heap.size g (!z) l' W h
    rwa [Bool.not_not] at h2
  have hc10 := H10.out.cell
  obtain ⟨y0, y1, y2, y3, y4, y5⟩ := six_cells HN10.out
  go_wp2_with fail
  refine wp_region_still_tail 3 (by kernel_rfl) (by kernel_rfl) ?_
  simp only [List.take_succ_cons, List.take_zero, List.drop_succ_cons, List.drop_zero]
  iterate 2 still_step
  still_call ((HOK.out w10.drew H10.out.1).mono fun _ _ h => ⟨h.1, h.2.symm⟩)
  refine wpStill_nil ?_
  change wpList _ _ _ _ _ w10.drew
  have HRd : Hid (w10.drew.heap[w.heap.size]? = some (.cells #[.int .i64 0, .int .i64 0, .int .i64 0, .int .i64 0, .int .i64 0, .int .i64 0] 23 (0, 0))) := HR10.out
  have HBd : Hid (Below w.heap.size w w10.drew) := HBW.out.drew
  clear hc10 y0 y1 y2 y3 y4 y5 HR10 HBW HN10 H10 HOK
  generalize w10.drew = wz at *
  obtain ⟨f0, f1, f2, f3, f4, f5⟩ := six_frozen HRd.out
  obtain ⟨y0, y1, y2, y3, y4, y5⟩ := six_cells HRd.out
  go_wp2_with fail
  (try simp only [Exit.inBlock, Exit.then])
  refine bodyPost_ret (results_row2 rfl _ _ w.heap.size _ _ (0, 0) _ rfl (stored6 HRd.out) Tryd.underlying23 rfl (by kernel_rfl)) rfl ?_
  exact ⟨rfl, HBd.out.trans (below_of_grown (stored6_grown _ _ _ _ _ _ _ _) (Nat.le_refl _) HBd.out.size)⟩
end Go.Proofs.YtjfgnojmdbfnmaaDoor
