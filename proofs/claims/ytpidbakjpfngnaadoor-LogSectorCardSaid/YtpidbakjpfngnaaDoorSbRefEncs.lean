/-
  SbRefPut: The walk of the reference's put of layouts.
  SbRefEnc: The walk of the reference's Encode of superblocks.
-/
import Derived.Test.YtpidbakjpfngnaaDoorSbFour
import Derived.StillTailTactics
section
set_option maxRecDepth 100000
namespace Go.Proofs.YtpidbakjpfngnaaDoor
open Go.RowKit
/-- 'max' of two integers, in a region that stands still. -/
theorem wpStill_max2 {P : Program} {ops : Array Oper} {rest : List Oper} {o : Oper} {a : Act} {w : World} {Q : Act → Prop} (hw : Region.wanted o (yielded ops a.tmps) = true) (x y : Operand) (ats : Array TypeId)
    (ho : o.op = .call { callee := .builtin .max, args := #[x, y], argTypes := ats }) (k : IntKind) (p q r : Int) (hx : a.eval x = .int k p) (hy : a.eval y = .int k q) (hm : (if p < q then q else p) = r)
    (h : wpStill P ops w Q rest (a.put o.dst (.int k r))) : wpStill P ops w Q (o :: rest) a := by
  refine wpStill_step fun K hK => ?_
  rw [if_pos hw]
  have hrun : (Builtin.max_ ats o.type #[.int k p, .int k q]).run P w = .ok (.int k r) w := by rw [← hm]; simp [Builtin.max_, Builtin.max2]
  unfold Oper.still
  simp [execOp, ho, resolve, invoke, builtin, hx, hy, hrun, Result.andThen, Oper.stillUpon]
  exact hK _ h
theorem Sd.past {w W W' : World} {o : Obj} {B : Nat} (h : Sd w w.heap.size o W) (hb : Below B W W') (hB : w.heap.size < B) : Sd w w.heap.size o W' := ⟨(hb.block _ hB).trans h.1, h.2.trans (hb.mono (Nat.le_of_lt hB))⟩
theorem be1 (k : Nat) (h : k < 256) : Wire.be 1 k = [k] := by rw [Rc.be_one, Nat.mod_eq_of_lt h]
set_option maxHeartbeats 2000000 in
theorem refputlay_nat (A : Option Addr) (B n c : Nat) (l : List Nat) (a b d : Nat) (r : Int) (w : World) (hB : B ≤ w.heap.size) (hs : SlIs A n c) (hl : l.length = n) (hn : n ≤ 1000000) (hb : Hid (Bs w B A l)) (ha : a ≤ 4294967295) (hb2 : b ≤ 2) (hd : d ≤ 16) (hr : r = 0 ∨ Sb.pw r) :
    Calls Tryd.prog 48 #[.slice A n c, .agg #[.int .i64 (a : Int), .int .i64 (b : Int), .int .i64 r, .int .i64 (d : Int)]] w (DidLay w l n ⟨(a : Int), (b : Int), r, (d : Int)⟩) := by
  have hex := Sb.ex_le r
  have HLY : Hid (Sb.lay ⟨(a : Int), (b : Int), r, (d : Int)⟩ = Wire.be 4 a ++ [b, Sb.ex r, d]) := by
    show Wire.be 4 a ++ (Wire.be 1 b ++ (Wire.be 1 (Sb.ex r) ++ Wire.be 1 d)) = _
    rw [be1 b (by omega), be1 (Sb.ex r) (by omega), be1 d (by omega)]; rfl
  have CL := Lib.hid (fun W => sblog_any r W)
  have HMX := Lib.hid (Sb.lg_max r hr)
  unfold DidLay
  generalize Sb.lay ⟨(a : Int), (b : Int), r, (d : Int)⟩ = ly at *
  generalize Sb.lg r = lgr at *
  generalize Sb.ex r = k at *
  clear hr
  have ea : IntKind.u8.wrap (b : Int) = (b : Int) := by rw [IntKind.wrap_u8]; omega
  have ek : IntKind.u8.wrap (k : Int) = (k : Int) := by rw [IntKind.wrap_u8]; omega
  have ed : IntKind.u8.wrap (d : Int) = (d : Int) := by rw [IntKind.wrap_u8]; omega
  have HB3 : Hid (∀ y ∈ [b, k, d], y < 256) := fun y hy => by
    rcases List.mem_cons.1 hy with rfl | hy
    · omega
    rcases List.mem_cons.1 hy with rfl | hy
    · omega
    rw [List.mem_singleton.1 hy]; omega
  have HS0 := Lib.hid (sd_new w #[.int .i64 (a : Int), .int .i64 (b : Int), .int .i64 r, .int .i64 (d : Int)] 32)
  have HN := Lib.hid hn
  have HL := Lib.hid hl
  have HSL := Lib.hid hs
  clear hs hl hn
  obtain ⟨i0, hi0, hz0, hz1, hz2⟩ := info_parts info_u8
  have I0 := Lib.hid (And.intro hi0 (And.intro hz0 (And.intro hz1 hz2)))
  clear hi0 hz0 hz1 hz2
  go_enter Tryd.func48, Tryd.ntmps48
  go_wp2_with fail
  generalize w.alloc (.cells #[.int .i64 (a : Int), .int .i64 (b : Int), .int .i64 r, .int .i64 (d : Int)] 32) = w0 at *
  refine (refput_row A B n c l a 4 4 rfl w0 HSL.out HL.out (by have := HN.out; omega) (hb.out.below HS0.out.2 hB) (by decide) (by decide)).mono ?_
  rintro e w1 ⟨A1, n1, c1, p1, rfl, hp1, hn1, hr1⟩
  have HS1 := Lib.hid (HS0.out.next hr1.2.2.2.2 (by rfl) (by rfl) (by rfl) (by rfl))
  have HR1 := Lib.hid hr1
  clear hr1
  have HMM : Hid (n1 + 3 ≤ maxLen ∧ (n1 + 3) * 1 ≤ 140737488355328) := by
    have := hn1.out
    have := HN.out
    exact ⟨by unfold maxLen; omega, by omega⟩
  obtain ⟨z0, z1, z2, z3⟩ := sd_cells4 HS1.out
  go_upto_region 2 with fail
  have HZd : Hid (w0.heap.size ≤ w1.heap.size) := HR1.out.2.2.2.2.size
  have HAL : Hid (w0.heap.size ≤ (w1.alloc (.cells #[.int .u8 (b : Int), .int .u8 (k : Int), .int .u8 (d : Int)] 5)).heap.size) := Nat.le_trans HZd.out (by simp)
  have HOA : Hid ((w1.alloc (.cells #[.int .u8 (b : Int), .int .u8 (k : Int), .int .u8 (d : Int)] 5)).drew.ownsRow w0.heap.size 5 1 (.slice A1 n1 c1) n1 (vals p1)) := HR1.out.1.alloc _
  have HNW : Hid (∀ ad, some (⟨w1.heap.size, 0, none⟩ : Addr) = some ad → ∀ j u, (vals [b, k, d])[j]? = some u → (w1.alloc (.cells #[.int .u8 (b : Int), .int .u8 (k : Int), .int .u8 (d : Int)] 5)).drew.cell? (ad.add j) = some u) := fun ad e => by injection e with e; subst e; exact World.news_of_block (heap_alloc_new w1 _)
  have HSA : Hid (Below w.heap.size w (w1.alloc (.cells #[.int .u8 (b : Int), .int .u8 (k : Int), .int .u8 (d : Int)] 5))) := HS1.out.2.alloc HS1.out.2.size _
  have HSX : Hid (Sd w w.heap.size (.cells #[.int .i64 (a : Int), .int .i64 (b : Int), .int .i64 r, .int .i64 (d : Int)] 32 (0, 0)) (w1.alloc (.cells #[.int .u8 (b : Int), .int .u8 (k : Int), .int .u8 (d : Int)] 5)).drew) := ⟨(heap_alloc_old _ _ (Array.getElem?_eq_some_iff.1 HS1.out.1).1).trans HS1.out.1, HSA.out.drew⟩
  have HLT0 : Hid (w.heap.size < w0.heap.size) := (Array.getElem?_eq_some_iff.1 HS0.out.1).1
  have hmx := HMX.out
  go_region_held3 (fun W => W.cell? ⟨w.heap.size, 1, none⟩ = some (.int .i64 (b : Int)) ∧ W.cell? ⟨w.heap.size, 2, none⟩ = some (.int .i64 r) ∧ W.cell? ⟨w.heap.size, 3, none⟩ = some (.int .i64 (d : Int)))
    (first
      | (have hh := sd_cells4 HS2.out; with_reducible exact hh.2)
      | go_keep)
    (first
      | (go_at_call 46; refine (CL.out _).mono ?_; rintro e w' ⟨rfl, rfl⟩)
      | (refine step_append_onto rfl (.tmp 10) (.tmp 22) 28 rfl w0.heap.size 5 i0 (.int .u8 0) 1 1 Tryd.underlying28 I0.out.1 I0.out.2.1 I0.out.2.2.1 I0.out.2.2.2 rfl (by decide) _ n1 (vals p1) rfl HOA.out (some ⟨w1.heap.size, 0, none⟩) 3 3 (vals [b, k, d]) rfl (fun e => by cases e) rfl HNW.out (vals_one _) HMM.out.1 HMM.out.2 HAL.out ?_; intro v2 w2 hown2 hb2; rw [← vals_append] at hown2; have HO2 := Lib.hid hown2; have HG2 := Lib.hid hb2; have HS2 := Lib.hid (HSX.out.past HG2.out HLT0.out); clear hown2 hb2))
  go_wp2_with fail
  have hlt : ∀ y ∈ p1 ++ [b, k, d], y < 256 := fun y hy => by
    rcases List.mem_append.1 hy with h | h
    · exact HR1.out.2.2.2.1.lt y h
    · exact HB3.out y h
  obtain ⟨A2, c2, rfl, hbs2, hl2, hn2, hm2, ho2⟩ := own_bytes HO2.out hlt
  go_ret
  have HW0 : w.heap.size ≤ w0.heap.size := HS0.out.2.size
  refine ⟨A2, n1 + 3, c2, _, rfl, ?_, ?_, ownsRow_mono HO2.out HW0, hl2, sl_own hn2 hm2 ho2, hbs2, HS2.out.2⟩
  · show _ = _
    rw [HLY.out, hp1.out, List.append_assoc]
  · have := hn1.out
    show _ = _
    omega
theorem refputlay_any (A : Option Addr) (B n c : Nat) (l : List Nat) (i v r g : Int) (w : World) (hB : B ≤ w.heap.size) (hs : SlIs A n c) (hl : l.length = n) (hn : n ≤ 1000000) (hb : Bs w B A l) (hw : Sb.Wr ⟨i, v, r, g⟩) :
    Calls Tryd.prog 48 #[.slice A n c, .agg #[.int .i64 i, .int .i64 v, .int .i64 r, .int .i64 g]] w (DidLay w l n ⟨i, v, r, g⟩) := by
  obtain ⟨a, b, d, e, h1, h2, h3, h4⟩ := wr_nat hw
  injection e with e0 e1 _ e3
  subst e0 e1 e3
  exact refputlay_nat A B n c l a b d r w hB hs hl hn hb h1 h2 h3 h4
end Go.Proofs.YtpidbakjpfngnaaDoor
end
section
set_option maxRecDepth 100000
namespace Go.Proofs.YtpidbakjpfngnaaDoor
open Go.RowKit
theorem sd_home {w W : World} {g : Nat} {z0 z1 z2 z3 z4 z5 z6 z7 z8 z9 z10 z11 z12 z13 : Value} {t : TypeId} (h : Sd w g (.cells #[z0, z1, z2, z3, z4, z5, z6, z7, z8, z9, z10, z11, z12, z13] t (0, 0)) W) : W.cell? ⟨g, 9, none⟩ = some z9 ∧ W.cell? ⟨g, 10, none⟩ = some z10 ∧ W.cell? ⟨g, 11, none⟩ = some z11 ∧ W.cell? ⟨g, 12, none⟩ = some z12 ∧ W.cell? ⟨g, 13, none⟩ = some z13 := by
  obtain ⟨-, -, -, -, -, -, -, -, -, c9, c10, c11, c12, c13⟩ := cells14 h.1
  exact ⟨c9, c10, c11, c12, c13⟩
theorem sd_lays {w W : World} {g : Nat} {z0 z1 z2 z3 z4 z5 z6 z7 z8 z9 z10 z11 z12 z13 : Value} {t : TypeId} (h : Sd w g (.cells #[z0, z1, z2, z3, z4, z5, z6, z7, z8, z9, z10, z11, z12, z13] t (0, 0)) W) : (W.cell? ⟨g, 9, none⟩ = some z9 ∧ W.cell? ⟨g, 10, none⟩ = some z10 ∧ W.cell? ⟨g, 11, none⟩ = some z11 ∧ W.cell? ⟨g, 12, none⟩ = some z12 ∧ W.cell? ⟨g, 13, none⟩ = some z13) ∧ (W.cell? ⟨g, 5, none⟩ = some z5 ∧ W.cell? ⟨g, 6, none⟩ = some z6 ∧ W.cell? ⟨g, 7, none⟩ = some z7 ∧ W.cell? ⟨g, 8, none⟩ = some z8) := by
  obtain ⟨-, -, -, -, -, c5, c6, c7, c8, c9, c10, c11, c12, c13⟩ := cells14 h.1
  exact ⟨⟨c9, c10, c11, c12, c13⟩, c5, c6, c7, c8⟩
theorem sd_one_two {w W : World} {g : Nat} {z0 z1 z2 z3 z4 z5 z6 z7 z8 z9 z10 z11 z12 z13 : Value} {t : TypeId} (h : Sd w g (.cells #[z0, z1, z2, z3, z4, z5, z6, z7, z8, z9, z10, z11, z12, z13] t (0, 0)) W) : W.cell? ⟨g, 1, none⟩ = some z1 ∧ W.cell? ⟨g, 2, none⟩ = some z2 := by
  obtain ⟨-, c1, c2, -, -, -, -, -, -, -, -, -, -, -⟩ := cells14 h.1
  exact ⟨c1, c2⟩
theorem sd_three_four {w W : World} {g : Nat} {z0 z1 z2 z3 z4 z5 z6 z7 z8 z9 z10 z11 z12 z13 : Value} {t : TypeId} (h : Sd w g (.cells #[z0, z1, z2, z3, z4, z5, z6, z7, z8, z9, z10, z11, z12, z13] t (0, 0)) W) : W.cell? ⟨g, 3, none⟩ = some z3 ∧ W.cell? ⟨g, 4, none⟩ = some z4 := by
  obtain ⟨-, -, -, c3, c4, -, -, -, -, -, -, -, -, -⟩ := cells14 h.1
  exact ⟨c3, c4⟩
theorem Sd.made {w W : World} {g : Nat} {o : Obj} (h : Sd w g o W) (o' : Obj) : Sd w g o (W.alloc o') := ⟨(heap_alloc_old _ _ (Array.getElem?_eq_some_iff.1 h.1).1).trans h.1, h.2.alloc h.2.size _⟩
/-- A row of bytes, as it lies. -/
def RowAt (W : World) (p : List Nat) (n : Nat) (A : Option Addr) (c : Nat) : Prop := SlIs A n c ∧ p.length = n ∧ Bs W W.heap.size A p
theorem Row.at {w w' : World} {p : List Nat} {n : Nat} {A : Option Addr} {c : Nat} (h : Row w p n A c w') : RowAt w' p n A c := ⟨h.2.2.1, h.2.1, h.2.2.2.1⟩
theorem row_own {w : World} {base : Nat} {v : Value} {n : Nat} {p : List Nat} (h : w.ownsRow base 5 1 v n (vals p)) (hlt : ∀ y ∈ p, y < 256) : ∃ A c, v = .slice A n c ∧ RowAt w p n A c := by
  obtain ⟨A, c, rfl, hbs, hl, hn, hm, ho⟩ := own_bytes h hlt
  exact ⟨A, c, rfl, sl_own hn hm ho, hl, hbs⟩
theorem RowAt.lt {W : World} {p : List Nat} {n : Nat} {A : Option Addr} {c : Nat} (h : RowAt W p n A c) : ∀ y ∈ p, y < 256 := h.2.2.lt
theorem lt_snoc {p : List Nat} {k : Nat} (h : ∀ y ∈ p, y < 256) (hk : k < 256) : ∀ y ∈ p ++ [k], y < 256 := fun y hy => by
  rcases List.mem_append.1 hy with h2 | h2
  · exact h y h2
  · rw [List.mem_singleton.1 h2]; exact hk
end Go.Proofs.YtpidbakjpfngnaaDoor
end
