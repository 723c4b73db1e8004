/-
  SbRefPut: The walk of the reference's put of layouts.
  SbRefEnc: The walk of the reference's Encode of superblocks.
-/
import Derived.Test.YtcjnhemlkahgoaaDoorSbFour
import Derived.StillTailTactics
section
set_option maxRecDepth 100000
namespace Go.Proofs.YtcjnhemlkahgoaaDoor
open Go.RowKit
/-- 'max' of two integers, in a region that stands still. -/
theorem wpStill_max2 {P : Program} {ops : Array Oper} {rest : List Oper} {o : Oper} {a : Act} {w : World} {Q : Act → Prop} (hw : Region.wanted o (yielded ops a.tmps) = true) (x y : Operand) (ats : Array TypeId)
    (ho : o.op = .call { callee := .builtin .max, args := #[x, y], argTypes := ats }) (k : IntKind) (p q r : Int) (hx : a.eval x = .int k p) (hy : a.eval y = .int k q) (hm : (if p < q then q else p) = r)
    (h : wpStill P ops w Q rest (a.put o.dst (.int k r))) : wpStill P ops w Q (o :: rest) a := by
  refine wpStill_step fun K hK => ?_
  rw [if_pos hw]
  have hrun : (Builtin.max_ ats o.type #[.int k p, .int k q]).run P w = .ok (.int k r) w := by rw [← hm]; simp [Builtin.max_, Builtin.max2]
  unfold Oper.still
  simp [execOp, ho, resolve, invoke, builtin, hx, hy, hrun, Result.andThen, Oper.stillUpon]
  exact hK _ h
theorem Sd.past {w W W' : World} {o : Obj} {B : Nat} (h : Sd w w.heap.size o W) (hb : Below B W W') (hB : w.heap.size < B) : Sd w w.heap.size o W' := ⟨(hb.block _ hB).trans h.1, h.2.trans (hb.mono (Nat.le_of_lt hB))⟩
theorem be1 (k : Nat) (h : k < 256) : Wire.be 1 k = [k] := by rw [Rc.be_one, Nat.mod_eq_of_lt h]
set_option maxHeartbeats 2000000 in
theorem refputlay_nat (A : Option Addr) (B n c : Nat) (l : List Nat) (a b d : Nat) (r : Int) (w : World) (hB : B ≤ w.heap.size) (hs : SlIs A n c) (hl : l.length = n) (hn : n ≤ 1000000) (hb : Hid (Bs w B A l)) (ha : a ≤ 4294967295) (hb2 : b ≤ 2) (hd : d ≤ 16) (hr : r = 0 ∨ Sb.pw r) :
    Calls Tryd.prog 48 #[.slice A n c, .agg #[.int .i64 (a : Int), .int .i64 (b : Int), .int .i64 r, .int .i64 (d : Int)]] w (DidLay w l n ⟨(a : Int), (b : Int), r, (d : Int)⟩) := by
  have hex := Sb.ex_le r
  have HLY : Hid (Sb.lay ⟨(a : Int), (b : Int), r, (d : Int)⟩ = Wire.be 4 a ++ [b, Sb.ex r, d]) := by
    show Wire.be 4 a ++ (Wire.be 1 b ++ (Wire.be 1 (Sb.ex r) ++ Wire.be 1 d)) = _
    rw [be1 b (by omega), be1 (Sb.ex r) (by omega), be1 d (by omega)]; rfl
  have CL := Lib.hid (fun W => sblog_any r W)
  have HMX := Lib.hid (Sb.lg_max r hr)
  unfold DidLay
  generalize Sb.lay ⟨(a : Int), (b : Int), r, (d : Int)⟩ = ly at *
  generalize Sb.lg r = lgr at *
  generalize Sb.ex r = k at *
  clear hr
  have ea : IntKind.u8.wrap (b : Int) = (b : Int) := by rw [IntKind.wrap_u8]; omega
  have ek : IntKind.u8.wrap (k : Int) = (k : Int) := by rw [IntKind.wrap_u8]; omega
  have ed : IntKind.u8.wrap (d : Int) = (d : Int) := by rw [IntKind.wrap_u8]; omega
  have HB3 : Hid (∀ y ∈ [b, k, d], y < 256) := fun y hy => by
    rcases List.mem_cons.1 hy with rfl | hy
    · omega
    rcases List.mem_cons.1 hy with rfl | hy
    · omega
    rw [List.mem_singleton.1 hy]; omega
  have HS0 := Lib.hid (sd_new w #[.int .i64 (a : Int), .int .i64 (b : Int), .int .i64 r, .int .i64 (d : Int)] 24)
  have HN := Lib.hid hn
  have HL := Lib.hid hl
  have HSL := Lib.hid hs
  clear hs hl hn
  obtain ⟨i0, hi0, hz0, hz1, hz2⟩ := info_parts info_u8
  have I0 := Lib.hid (And.intro hi0 (And.intro hz0 (And.intro hz1 hz2)))
  clear hi0 hz0 hz1 hz2
  go_enter Tryd.func48, Tryd.ntmps48
  go_wp2_with fail
  generalize w.alloc (.cells #[.int .i64 (a : Int), .int .i64 (b : Int), .int .i64 r, .int .i64 (d : Int)] 24) = w0 at *
  refine (refput_row A B n c l a 4 4 rfl w0 HSL.out HL.out (by have := HN.out; omega) (hb.out.below HS0.out.2 hB) (by decide) (by decide)).mono ?_
  rintro e w1 ⟨A1, n1, c1, p1, rfl, hp1, hn1, hr1⟩
  have HS1 := Lib.hid (HS0.out.next hr1.2.2.2.2 (by rfl) (by rfl) (by rfl) (by rfl))
  have HR1 := Lib.hid hr1
  clear hr1
  have HMM : Hid (n1 + 3 ≤ maxLen ∧ (n1 + 3) * 1 ≤ 140737488355328) := by
    have := hn1.out
    have := HN.out
    exact ⟨by unfold maxLen; omega, by omega⟩
  obtain ⟨z0, z1, z2, z3⟩ := sd_cells4 HS1.out
  go_upto_region 2 with fail
  have HZd : Hid (w0.heap.size ≤ w1.heap.size) := HR1.out.2.2.2.2.size
  have HAL : Hid (w0.heap.size ≤ (w1.alloc (.cells #[.int .u8 (b : Int), .int .u8 (k : Int), .int .u8 (d : Int)] 5)).heap.size) := Nat.le_trans HZd.out (by simp)
  have HOA : Hid ((w1.alloc (.cells #[.int .u8 (b : Int), .int .u8 (k : Int), .int .u8 (d : Int)] 5)).drew.ownsRow w0.heap.size 5 1 (.slice A1 n1 c1) n1 (vals p1)) := HR1.out.1.alloc _
  have HNW : Hid (∀ ad, some (⟨w1.heap.size, 0, none⟩ : Addr) = some ad → ∀ j u, (vals [b, k, d])[j]? = some u → (w1.alloc (.cells #[.int .u8 (b : Int), .int .u8 (k : Int), .int .u8 (d : Int)] 5)).drew.cell? (ad.add j) = some u) := fun ad e => by injection e with e; subst e; exact World.news_of_block (heap_alloc_new w1 _)
  have HSA : Hid (Below w.heap.size w (w1.alloc (.cells #[.int .u8 (b : Int), .int .u8 (k : Int), .int .u8 (d : Int)] 5))) := HS1.out.2.alloc HS1.out.2.size _
  have HSX : Hid (Sd w w.heap.size (.cells #[.int .i64 (a : Int), .int .i64 (b : Int), .int .i64 r, .int .i64 (d : Int)] 24 (0, 0)) (w1.alloc (.cells #[.int .u8 (b : Int), .int .u8 (k : Int), .int .u8 (d : Int)] 5)).drew) := ⟨(heap_alloc_old _ _ (Array.getElem?_eq_some_iff.1 HS1.out.1).1).trans HS1.out.1, HSA.out.drew⟩
  have HLT0 : Hid (w.heap.size < w0.heap.size) := (Array.getElem?_eq_some_iff.1 HS0.out.1).1
  have hmx := HMX.out
  go_region_held3 (fun W => W.cell? ⟨w.heap.size, 1, none⟩ = some (.int .i64 (b : Int)) ∧ W.cell? ⟨w.heap.size, 2, none⟩ = some (.int .i64 r) ∧ W.cell? ⟨w.heap.size, 3, none⟩ = some (.int .i64 (d : Int)))
    (first
      | (have hh := sd_cells4 HS2.out; with_reducible exact hh.2)
      | go_keep)
    (first
      | (go_at_call 66; refine (CL.out _).mono ?_; rintro e w' ⟨rfl, rfl⟩)
      | (refine step_append_onto rfl (.tmp 10) (.tmp 22) 22 rfl w0.heap.size 5 i0 (.int .u8 0) 1 1 Tryd.underlying22 I0.out.1 I0.out.2.1 I0.out.2.2.1 I0.out.2.2.2 rfl (by decide) _ n1 (vals p1) rfl HOA.out (some ⟨w1.heap.size, 0, none⟩) 3 3 (vals [b, k, d]) rfl (fun e => by cases e) rfl HNW.out (vals_one _) HMM.out.1 HMM.out.2 HAL.out ?_; intro v2 w2 hown2 hb2; rw [← vals_append] at hown2; have HO2 := Lib.hid hown2; have HG2 := Lib.hid hb2; have HS2 := Lib.hid (HSX.out.past HG2.out HLT0.out); clear hown2 hb2))
  go_wp2_with fail
  have hlt : ∀ y ∈ p1 ++ [b, k, d], y < 256 := fun y hy => by
    rcases List.mem_append.1 hy with h | h
    · exact HR1.out.2.2.2.1.lt y h
    · exact HB3.out y h
  obtain ⟨A2, c2, rfl, hbs2, hl2, hn2, hm2, ho2⟩ := own_bytes HO2.out hlt
  go_ret
  have HW0 : w.heap.size ≤ w0.heap.size := HS0.out.2.size
  refine ⟨A2, n1 + 3, c2, _, rfl, ?_, ?_, ownsRow_mono HO2.out HW0, hl2, sl_own hn2 hm2 ho2, hbs2, HS2.out.2⟩
  · show _ = _
    rw [HLY.out, hp1.out, List.append_assoc]
  · have := hn1.out
    show _ = _
    omega
theorem refputlay_any (A : Option Addr) (B n c : Nat) (l : List Nat) (i v r g : Int) (w : World) (hB : B ≤ w.heap.size) (hs : SlIs A n c) (hl : l.length = n) (hn : n ≤ 1000000) (hb : Bs w B A l) (hw : Sb.Wr ⟨i, v, r, g⟩) :
    Calls Tryd.prog 48 #[.slice A n c, .agg #[.int .i64 i, .int .i64 v, .int .i64 r, .int .i64 g]] w (DidLay w l n ⟨i, v, r, g⟩) := by
  obtain ⟨a, b, d, e, h1, h2, h3, h4⟩ := wr_nat hw
  injection e with e0 e1 _ e3
  subst e0 e1 e3
  exact refputlay_nat A B n c l a b d r w hB hs hl hn hb h1 h2 h3 h4
end Go.Proofs.YtcjnhemlkahgoaaDoor
end
section
set_option maxRecDepth 100000
namespace Go.Proofs.YtcjnhemlkahgoaaDoor
open Go.RowKit
theorem sd_home {w W : World} {g : Nat} {z0 z1 z2 z3 z4 z5 z6 z7 z8 z9 z10 z11 z12 z13 : Value} {t : TypeId} (h : Sd w g (.cells #[z0, z1, z2, z3, z4, z5, z6, z7, z8, z9, z10, z11, z12, z13] t (0, 0)) W) : W.cell? ⟨g, 9, none⟩ = some z9 ∧ W.cell? ⟨g, 10, none⟩ = some z10 ∧ W.cell? ⟨g, 11, none⟩ = some z11 ∧ W.cell? ⟨g, 12, none⟩ = some z12 ∧ W.cell? ⟨g, 13, none⟩ = some z13 := by
  obtain ⟨-, -, -, -, -, -, -, -, -, c9, c10, c11, c12, c13⟩ := cells14 h.1
  exact ⟨c9, c10, c11, c12, c13⟩
theorem sd_lays {w W : World} {g : Nat} {z0 z1 z2 z3 z4 z5 z6 z7 z8 z9 z10 z11 z12 z13 : Value} {t : TypeId} (h : Sd w g (.cells #[z0, z1, z2, z3, z4, z5, z6, z7, z8, z9, z10, z11, z12, z13] t (0, 0)) W) : (W.cell? ⟨g, 9, none⟩ = some z9 ∧ W.cell? ⟨g, 10, none⟩ = some z10 ∧ W.cell? ⟨g, 11, none⟩ = some z11 ∧ W.cell? ⟨g, 12, none⟩ = some z12 ∧ W.cell? ⟨g, 13, none⟩ = some z13) ∧ (W.cell? ⟨g, 5, none⟩ = some z5 ∧ W.cell? ⟨g, 6, none⟩ = some z6 ∧ W.cell? ⟨g, 7, none⟩ = some z7 ∧ W.cell? ⟨g, 8, none⟩ = some z8) := by
  obtain ⟨-, -, -, -, -, c5, c6, c7, c8, c9, c10, c11, c12, c13⟩ := cells14 h.1
  exact ⟨⟨c9, c10, c11, c12, c13⟩, c5, c6, c7, c8⟩
theorem sd_one_two {w W : World} {g : Nat} {z0 z1 z2 z3 z4 z5 z6 z7 z8 z9 z10 z11 z12 z13 : Value} {t : TypeId} (h : Sd w g (.cells #[z0, z1, z2, z3, z4, z5, z6, z7, z8, z9, z10, z11, z12, z13] t (0, 0)) W) : W.cell? ⟨g, 1, none⟩ = some z1 ∧ W.cell? ⟨g, 2, none⟩ = some z2 := by
  obtain ⟨-, c1, c2, -, -, -, -, -, -, -, -, -, -, -⟩ := cells14 h.1
  exact ⟨c1, c2⟩
theorem sd_three_four {w W : World} {g : Nat} {z0 z1 z2 z3 z4 z5 z6 z7 z8 z9 z10 z11 z12 z13 : Value} {t : TypeId} (h : Sd w g (.cells #[z0, z1, z2, z3, z4, z5, z6, z7, z8, z9, z10, z11, z12, z13] t (0, 0)) W) : W.cell? ⟨g, 3, none⟩ = some z3 ∧ W.cell? ⟨g, 4, none⟩ = some z4 := by
  obtain ⟨-, -, -, c3, c4, -, -, -, -, -, -, -, -, -⟩ := cells14 h.1
  exact ⟨c3, c4⟩
theorem Sd.made {w W : World} {g : Nat} {o : Obj} (h : Sd w g o W) (o' : Obj) : Sd w g o (W.alloc o') := ⟨(heap_alloc_old _ _ (Array.getElem?_eq_some_iff.1 h.1).1).trans h.1, h.2.alloc h.2.size _⟩
/-- A row of bytes, as it lies. -/
def RowAt (W : World) (p : List Nat) (n : Nat) (A : Option Addr) (c : Nat) : Prop := SlIs A n c ∧ p.length = n ∧ Bs W W.heap.size A p
theorem Row.at {w w' : World} {p : List Nat} {n : Nat} {A : Option Addr} {c : Nat} (h : Row w p n A c w') : RowAt w' p n A c := ⟨h.2.2.1, h.2.1, h.2.2.2.1⟩
theorem row_own {w : World} {base : Nat} {v : Value} {n : Nat} {p : List Nat} (h : w.ownsRow base 5 1 v n (vals p)) (hlt : ∀ y ∈ p, y < 256) : ∃ A c, v = .slice A n c ∧ RowAt w p n A c := by
  obtain ⟨A, c, rfl, hbs, hl, hn, hm, ho⟩ := own_bytes h hlt
  exact ⟨A, c, rfl, sl_own hn hm ho, hl, hbs⟩
theorem RowAt.lt {W : World} {p : List Nat} {n : Nat} {A : Option Addr} {c : Nat} (h : RowAt W p n A c) : ∀ y ∈ p, y < 256 := h.2.2.lt
theorem lt_snoc {p : List Nat} {k : Nat} (h : ∀ y ∈ p, y < 256) (hk : k < 256) : ∀ y ∈ p ++ [k], y < 256 := fun y hy => by
  rcases List.mem_append.1 hy with h2 | h2
  · exact h y h2
  · rw [List.mem_singleton.1 h2]; exact hk
set_option maxHeartbeats 8000000 in
theorem refsbenc_nat (a0 a1 a2 a3 a4 x : Nat) (t0 t1 t2 t3 h0 h1 h2 h3 : Int) (A : Option Addr) (B n c : Nat) (l : List Sb.L) (w : World) (hB : B ≤ w.heap.size) (hl : Hid (l.length = n)) (hb : Hid (Ls w B A l)) (q0 : a0 ≤ 1099511627775) (q1 : a1 ≤ 3) (q2 : a2 ≤ 4294967295) (q3 : a3 ≤ 281474976710655) (q4 : a4 ≤ 549755813888) (ht : Hid (Sb.Wr ⟨t0, t1, t2, t3⟩)) (hh : Hid (Sb.Wr ⟨h0, h1, h2, h3⟩)) (hn : n ≤ 2) (hf : Hid (n = 2 → Sb.Wr (l.getD 1 Sb.L0))) (hx : x < 1048576) :
    Calls Tryd.prog 23 #[.agg #[.int .i64 (a0 : Int), .int .i64 (a1 : Int), .int .i64 (a2 : Int), .int .i64 (a3 : Int), .int .i64 (a4 : Int), .int .i64 t0, .int .i64 t1, .int .i64 t2, .int .i64 t3, .int .i64 h0, .int .i64 h1, .int .i64 h2, .int .i64 h3, .slice A n c], .int .i64 (x : Int)] w fun r w' => ∃ A3 c3, r = .returned (.slice A3 64 c3) ∧ SlIs A3 64 c3 ∧ Bs w' w'.heap.size A3 (Sb.enc (x : Int) ⟨(a0 : Int), (a1 : Int), (a2 : Int), (a3 : Int), (a4 : Int), ⟨t0, t1, t2, t3⟩, ⟨h0, h1, h2, h3⟩, l⟩) ∧ Below w.heap.size w w' := by
  have HBD : Hid (Sb.body ⟨(a0 : Int), (a1 : Int), (a2 : Int), (a3 : Int), (a4 : Int), ⟨t0, t1, t2, t3⟩, ⟨h0, h1, h2, h3⟩, l⟩ = Wire.be 5 a0 ++ ([a1] ++ (Wire.be 4 a2 ++ (Wire.be 6 a3 ++ (Wire.be 5 a4 ++ (Sb.lay ⟨t0, t1, t2, t3⟩ ++ (Sb.lay ⟨h0, h1, h2, h3⟩ ++ ([n] ++ (if n = 2 then Sb.lay (l.getD 1 Sb.L0) else []))))))))) := by
    show _ = _
    unfold Sb.body Sb.more
    simp only [Int.toNat_natCast, hl.out]
    rw [be1 a1 (by omega), be1 n (by omega)]
  have HEN : Hid (Sb.enc (x : Int) ⟨(a0 : Int), (a1 : Int), (a2 : Int), (a3 : Int), (a4 : Int), ⟨t0, t1, t2, t3⟩, ⟨h0, h1, h2, h3⟩, l⟩ = Fr.enc 3 0 (x : Int) (Sb.body ⟨(a0 : Int), (a1 : Int), (a2 : Int), (a3 : Int), (a4 : Int), ⟨t0, t1, t2, t3⟩, ⟨h0, h1, h2, h3⟩, l⟩)) := rfl
  generalize Sb.enc (x : Int) ⟨(a0 : Int), (a1 : Int), (a2 : Int), (a3 : Int), (a4 : Int), ⟨t0, t1, t2, t3⟩, ⟨h0, h1, h2, h3⟩, l⟩ = en at *
  generalize Sb.body ⟨(a0 : Int), (a1 : Int), (a2 : Int), (a3 : Int), (a4 : Int), ⟨t0, t1, t2, t3⟩, ⟨h0, h1, h2, h3⟩, l⟩ = bd at *
  rw [HEN.out]
  clear HEN
  obtain ⟨f0, f1, f2, f3, HY⟩ : ∃ a0 a1 a2 a3, Hid (l.getD 1 Sb.L0 = ⟨a0, a1, a2, a3⟩) := ⟨_, _, _, _, rfl⟩
  rw [HY.out] at HBD hf
  have HG : Hid (∀ ad W, Below w.heap.size w W → A = some ad → 1 < n → W.cell? ⟨ad.block, ad.off + 4, none⟩ = some (.int .i64 f0) ∧ W.cell? ⟨ad.block, ad.off + 5, none⟩ = some (.int .i64 f1) ∧ W.cell? ⟨ad.block, ad.off + 6, none⟩ = some (.int .i64 f2) ∧ W.cell? ⟨ad.block, ad.off + 7, none⟩ = some (.int .i64 f3)) := fun ad W hW e hn => by
    subst e
    exact (hb.out.below hW hB).second (by rw [hl.out]; exact hn) _ _ _ _ HY.out
  have HA : Hid (1 < n → ∃ ad, A = some ad) := fun hn => ls_some hb.out (k := 1) (by rw [hl.out]; exact hn)
  clear hl hb hB HY
  have e1 : IntKind.u8.wrap (a1 : Int) = (a1 : Int) := by rw [IntKind.wrap_u8]; omega
  have e2 : IntKind.u64.wrap (a2 : Int) = (a2 : Int) := by rw [IntKind.wrap_u64]; omega
  have e3 : IntKind.u64.wrap (a3 : Int) = (a3 : Int) := by rw [IntKind.wrap_u64]; omega
  have e4 : IntKind.u64.wrap (a4 : Int) = (a4 : Int) := by rw [IntKind.wrap_u64]; omega
  have e5 : IntKind.u8.wrap (n : Int) = (n : Int) := by rw [IntKind.wrap_u8]; omega
  have HQ : Hid (a1 < 256 ∧ n < 256) := ⟨by omega, by omega⟩
  have HMX : Hid ((5 + 1 ≤ maxLen ∧ (5 + 1) * 1 ≤ 140737488355328) ∧ (35 + 1 ≤ maxLen ∧ (35 + 1) * 1 ≤ 140737488355328)) := by
    show _ ∧ _
    unfold maxLen
    omega
  have HSZ : Hid (∀ (W : World) (o : Obj), W.heap.size < (W.alloc o).heap.size) := fun W o => by simp
  have HS0 := Lib.hid (sd_new w #[.int .i64 (a0 : Int), .int .i64 (a1 : Int), .int .i64 (a2 : Int), .int .i64 (a3 : Int), .int .i64 (a4 : Int), .int .i64 t0, .int .i64 t1, .int .i64 t2, .int .i64 t3, .int .i64 h0, .int .i64 h1, .int .i64 h2, .int .i64 h3, .slice A n c] 27)
  have HLT0 : Hid (w.heap.size < (w.alloc (.cells #[.int .i64 (a0 : Int), .int .i64 (a1 : Int), .int .i64 (a2 : Int), .int .i64 (a3 : Int), .int .i64 (a4 : Int), .int .i64 t0, .int .i64 t1, .int .i64 t2, .int .i64 t3, .int .i64 h0, .int .i64 h1, .int .i64 h2, .int .i64 h3, .slice A n c] 27)).heap.size) := by show _ < _; simp
  obtain ⟨i0, hi0, hz0, hz1, hz2⟩ := info_parts info_u8
  have I0 := Lib.hid (And.intro hi0 (And.intro hz0 (And.intro hz1 hz2)))
  clear hi0 hz0 hz1 hz2
  go_enter Tryd.func23, Tryd.ntmps23
  go_upto_region 1 with fail
  generalize w.alloc (.cells #[.int .i64 (a0 : Int), .int .i64 (a1 : Int), .int .i64 (a2 : Int), .int .i64 (a3 : Int), .int .i64 (a4 : Int), .int .i64 t0, .int .i64 t1, .int .i64 t2, .int .i64 t3, .int .i64 h0, .int .i64 h1, .int .i64 h2, .int .i64 h3, .slice A n c] 27) = w0 at *
  obtain ⟨z0, z1, z2, z3, z4, z5, z6, z7, z8, z9, z10, z11, z12, z13⟩ := cells14 HS0.out.1
  go_wp2_with fail
  refine (refput_row none 0 0 0 [] a0 5 5 rfl w0 sl_nil rfl (by decide) (bs_nil _ _) (by decide) (by decide)).mono ?_
  rintro e w1 ⟨A1, n1, c1, p1, rfl, hp1, hn1, hr1⟩
  have k1 : n1 = 5 := hn1.out
  subst k1
  have HS1 := Lib.hid (HS0.out.next hr1.2.2.2.2 (by rfl) (by rfl) (by rfl) (by rfl))
  have HR1 := Lib.hid hr1
  have HZ1 : Hid (w0.heap.size ≤ (w1.alloc (.cells #[.int .u8 (a1 : Int)] 5)).heap.size) := Nat.le_trans hr1.2.2.2.2.size (by simp)
  have HOA1 : Hid ((w1.alloc (.cells #[.int .u8 (a1 : Int)] 5)).drew.ownsRow w0.heap.size 5 1 (.slice A1 5 c1) 5 (vals p1)) := hr1.1.alloc _
  have HNW1 : Hid (∀ ad, some (⟨w1.heap.size, 0, none⟩ : Addr) = some ad → ∀ j u, (vals [a1])[j]? = some u → (w1.alloc (.cells #[.int .u8 (a1 : Int)] 5)).drew.cell? (ad.add j) = some u) := fun ad e => by injection e with e; subst e; exact World.news_of_block (heap_alloc_new w1 _)
  have HSA1 : Hid (Sd w w.heap.size _ (w1.alloc (.cells #[.int .u8 (a1 : Int)] 5)).drew) := ⟨(HS1.out.made _).1, (HS1.out.made _).2.drew⟩
  have HL1 := Lib.hid (lt_snoc (p := p1) hr1.2.2.2.1.lt HQ.out.1)
  clear hr1 z0 z1 z2 z3 z4 z5 z6 z7 z8 z9 z10 z11 z12 z13
  obtain ⟨z0, z1, z2, z3, z4, z5, z6, z7, z8, z9, z10, z11, z12, z13⟩ := cells14 HS1.out.1
  go_upto_region 2 with fail
  go_region_held3 (fun W => W.cell? ⟨w.heap.size, 1, none⟩ = some (.int .i64 (a1 : Int)) ∧ W.cell? ⟨w.heap.size, 2, none⟩ = some (.int .i64 (a2 : Int)))
    (first
      | (have hh := HS3.out; with_reducible exact sd_one_two hh)
      | (have hh := HS2.out; with_reducible exact sd_one_two hh)
      | go_keep)
    (first
      | (refine step_append_onto rfl (.tmp 10) (.tmp 14) 22 rfl w0.heap.size 5 i0 (.int .u8 0) 1 1 Tryd.underlying22 I0.out.1 I0.out.2.1 I0.out.2.2.1 I0.out.2.2.2 rfl (by decide) _ 5 (vals p1) rfl HOA1.out (some ⟨w1.heap.size, 0, none⟩) 1 1 (vals [a1]) rfl (fun e => by cases e) rfl HNW1.out (vals_one _) HMX.out.1.1 HMX.out.1.2 HZ1.out ?_; intro v2 w2 hown2 hb2; rw [← vals_append] at hown2; obtain ⟨A2, c2, rfl, hra2⟩ := row_own hown2 HL1.out; have HR2 := Lib.hid hra2; have HS2 := Lib.hid (HSA1.out.past hb2 HLT0.out); clear hown2 hb2 hra2)
      | (go_at_call 38; refine (refput_row A2 w2.heap.size 6 c2 (p1 ++ [a1]) a2 4 4 rfl w2 HR2.out.1 HR2.out.2.1 (by decide) HR2.out.2.2 (by decide) (by decide)).mono ?_; rintro e w3 ⟨A3, n3, c3, p3, rfl, hp3, hn3, hr3⟩; have k3 : n3 = 10 := hn3.out; subst k3; have HS3 := Lib.hid (HS2.out.next hr3.2.2.2.2 (by rfl) (by rfl) (by rfl) (by rfl)); have HR3 := Lib.hid hr3.at; clear hr3))
  clear z0 z1 z2 z3 z4 z5 z6 z7 z8 z9 z10 z11 z12 z13 HOA1 HNW1 HSA1 HZ1 HL1 HR1 HR2 HS1 HS2
  obtain ⟨z0, z1, z2, z3, z4, z5, z6, z7, z8, z9, z10, z11, z12, z13⟩ := cells14 HS3.out.1
  go_upto_region 3 with fail
  go_region_held3 (fun W => W.cell? ⟨w.heap.size, 3, none⟩ = some (.int .i64 (a3 : Int)) ∧ W.cell? ⟨w.heap.size, 4, none⟩ = some (.int .i64 (a4 : Int)))
    (first
      | (have hh := HS5.out; with_reducible exact sd_three_four hh)
      | (have hh := HS4.out; with_reducible exact sd_three_four hh)
      | go_keep)
    (first
      | (go_at_call 38; have hh := HS4.out; refine (refput_row A4 w4.heap.size 16 c4 p4 a4 5 5 rfl w4 HR4.out.1 HR4.out.2.1 (by decide) HR4.out.2.2 (by decide) (by decide)).mono ?_; rintro e w5 ⟨A5, n5, c5, p5, rfl, hp5, hn5, hr5⟩; have k5 : n5 = 21 := hn5.out; subst k5; have HS5 := Lib.hid (hh.next hr5.2.2.2.2 (by rfl) (by rfl) (by rfl) (by rfl)); have HR5 := Lib.hid hr5.at; clear hr5 hh)
      | (go_at_call 38; refine (refput_row A3 w3.heap.size 10 c3 p3 a3 6 6 rfl w3.drew HR3.out.1 HR3.out.2.1 (by decide) HR3.out.2.2 (by decide) (by decide)).mono ?_; rintro e w4 ⟨A4, n4, c4, p4, rfl, hp4, hn4, hr4⟩; have k4 : n4 = 16 := hn4.out; subst k4; have HS4 := Lib.hid (HS3.out.next hr4.2.2.2.2 (by rfl) (by rfl) (by rfl) (by rfl)); have HR4 := Lib.hid hr4.at; clear hr4))
  clear z0 z1 z2 z3 z4 z5 z6 z7 z8 z9 z10 z11 z12 z13 HR3 HR4 HS3 HS4
  obtain ⟨z0, z1, z2, z3, z4, z5, z6, z7, z8, z9, z10, z11, z12, z13⟩ := cells14 HS5.out.1
  have HT5 : Hid (∀ W, Below w5.heap.size w5 W → Calls Tryd.prog 48 #[.slice A5 21 c5, .agg #[.int .i64 t0, .int .i64 t1, .int .i64 t2, .int .i64 t3]] W (DidLay W p5 21 ⟨t0, t1, t2, t3⟩)) := fun W hW => refputlay_any A5 w5.heap.size 21 c5 p5 t0 t1 t2 t3 W hW.size HR5.out.1 HR5.out.2.1 (by decide) (HR5.out.2.2.below hW (Nat.le_refl _)) ht.out
  have HX5 : Hid (∀ o, Below w5.heap.size w5 (w5.alloc o)) := fun o => (Below.refl _ _).alloc (Nat.le_refl _) _
  have HT5a := Lib.hid (HT5.out _ (HX5.out (.cells #[.int .u8 (n : Int)] 5)).drew)
  have HT5d := Lib.hid (HT5.out _ (Below.refl w5.heap.size w5).drew)
  have HH6 : Hid (∀ (w6 : World) A6 c6 p6, RowAt w6 p6 28 A6 c6 → ∀ W, Below w6.heap.size w6 W → Calls Tryd.prog 48 #[.slice A6 28 c6, .agg #[.int .i64 h0, .int .i64 h1, .int .i64 h2, .int .i64 h3]] W (DidLay W p6 28 ⟨h0, h1, h2, h3⟩)) := fun w6 A6 c6 p6 hr W hW => refputlay_any A6 w6.heap.size 28 c6 p6 h0 h1 h2 h3 W hW.size hr.1 hr.2.1 (by decide) (hr.2.2.below hW (Nat.le_refl _)) hh.out
  have HX6 : Hid (∀ (w6 : World) o, Below w6.heap.size w6 (w6.alloc o)) := fun w6 o => (Below.refl _ _).alloc (Nat.le_refl _) _
  have HY5 : Hid (∀ o, Sd w w.heap.size _ (w5.alloc o)) := fun o => HS5.out.made o
  clear ht hh
  go_upto_region 4 with fail
  go_cut [5] (fun s5 wx => ∃ A8 c8 p6 p7, s5 = .slice A8 36 c8 ∧ Hid (p7 = p6 ++ Sb.lay ⟨h0, h1, h2, h3⟩) ∧ Hid (p6 = p5 ++ Sb.lay ⟨t0, t1, t2, t3⟩) ∧ Hid (RowAt wx (p7 ++ [n]) 36 A8 c8) ∧ Hid (Sd w w.heap.size (.cells #[.int .i64 (a0 : Int), .int .i64 (a1 : Int), .int .i64 (a2 : Int), .int .i64 (a3 : Int), .int .i64 (a4 : Int), .int .i64 t0, .int .i64 t1, .int .i64 t2, .int .i64 t3, .int .i64 h0, .int .i64 h1, .int .i64 h2, .int .i64 h3, .slice A n c] 27 (0, 0)) wx))
  case first =>
    go_region_held3 (fun W => (W.cell? ⟨w.heap.size, 9, none⟩ = some (.int .i64 h0) ∧ W.cell? ⟨w.heap.size, 10, none⟩ = some (.int .i64 h1) ∧ W.cell? ⟨w.heap.size, 11, none⟩ = some (.int .i64 h2) ∧ W.cell? ⟨w.heap.size, 12, none⟩ = some (.int .i64 h3) ∧ W.cell? ⟨w.heap.size, 13, none⟩ = some (.slice A n c)) ∧ (W.cell? ⟨w.heap.size, 5, none⟩ = some (.int .i64 t0) ∧ W.cell? ⟨w.heap.size, 6, none⟩ = some (.int .i64 t1) ∧ W.cell? ⟨w.heap.size, 7, none⟩ = some (.int .i64 t2) ∧ W.cell? ⟨w.heap.size, 8, none⟩ = some (.int .i64 t3)))
      (first
        | (have hh := HS8.out; with_reducible exact sd_lays hh)
        | (have hh := HS7.out; with_reducible exact sd_lays (hh.made _))
        | (have hh := HS7.out; with_reducible exact sd_lays hh)
        | (have hh := HS6.out; with_reducible exact sd_lays (hh.made _))
        | (have hh := HS6.out; with_reducible exact sd_lays hh)
        | go_keep)
      (first
        | (go_at_call 48; revert HS6; intro HS6; have hh := HS6.out; first
            | ((with_reducible refine HC6a.out.mono ?_); rintro e w7 ⟨A7, n7, c7, p7, rfl, hp7, hn7, hr7⟩; have k7 : n7 = 35 := hn7.out; subst k7; have HS7 := Lib.hid ((hh.made (.cells #[.int .u8 (n : Int)] 5)).next hr7.2.2.2.2 (by rfl) (by rfl) (by rfl) (by rfl)); have HB7 : Hid (w7.heap[w6.heap.size]? = some (.cells #[.int .u8 (n : Int)] 5 (0, 0))) := (hr7.2.2.2.2.block _ (HSZ.out w6 _)).trans (heap_alloc_new w6 _); have HO7 := Lib.hid hr7.1; have HZ7 := Lib.hid hr7.2.2.2.2.size; have HW7 : Hid (w.heap.size < (w6.alloc (.cells #[.int .u8 (n : Int)] 5)).heap.size) := (Array.getElem?_eq_some_iff.1 (hh.made (.cells #[.int .u8 (n : Int)] 5)).1).1; have HL7 := Lib.hid (lt_snoc hr7.at.lt HQ.out.2); clear hr7 hh)
            | ((with_reducible refine HC6d.out.mono ?_); rintro e w7 ⟨A7, n7, c7, p7, rfl, hp7, hn7, hr7⟩; have k7 : n7 = 35 := hn7.out; subst k7; have HS7 := Lib.hid (hh.next hr7.2.2.2.2 (by rfl) (by rfl) (by rfl) (by rfl)); (first | (revert HB6; intro HB6; have hb6 := HB6.out; have HB7 : Hid (w7.heap[w5.heap.size]? = some (.cells #[.int .u8 (n : Int)] 5 (0, 0))) := (hr7.2.2.2.2.block _ (Array.getElem?_eq_some_iff.1 hb6).1).trans hb6; clear hb6) | skip); have HO7 := Lib.hid hr7.1; have HZ7 := Lib.hid hr7.2.2.2.2.size; have HW7 : Hid (w.heap.size < w6.heap.size) := (Array.getElem?_eq_some_iff.1 hh.1).1; have HL7 := Lib.hid (lt_snoc hr7.at.lt HQ.out.2); clear hr7 hh))
        | (go_at_call 48; first
            | ((with_reducible refine HT5a.out.mono ?_); rintro e w6 ⟨A6, n6, c6, p6, rfl, hp6, hn6, hr6⟩; have k6 : n6 = 28 := hn6.out; subst k6; have HS6 := Lib.hid ((HY5.out (.cells #[.int .u8 (n : Int)] 5)).next hr6.2.2.2.2 (by rfl) (by rfl) (by rfl) (by rfl)); have HB6 : Hid (w6.heap[w5.heap.size]? = some (.cells #[.int .u8 (n : Int)] 5 (0, 0))) := (hr6.2.2.2.2.block _ (HSZ.out w5 _)).trans (heap_alloc_new w5 _); have HR6 := Lib.hid hr6.at; have HC6a := Lib.hid (HH6.out w6 A6 c6 p6 hr6.at _ (HX6.out w6 (.cells #[.int .u8 (n : Int)] 5))); have HC6d := Lib.hid (HH6.out w6 A6 c6 p6 hr6.at w6 (Below.refl _ _)); clear hr6)
            | ((with_reducible refine HT5d.out.mono ?_); rintro e w6 ⟨A6, n6, c6, p6, rfl, hp6, hn6, hr6⟩; have k6 : n6 = 28 := hn6.out; subst k6; have HS6 := Lib.hid (HS5.out.next hr6.2.2.2.2 (by rfl) (by rfl) (by rfl) (by rfl)); have HR6 := Lib.hid hr6.at; have HC6a := Lib.hid (HH6.out w6 A6 c6 p6 hr6.at _ (HX6.out w6 (.cells #[.int .u8 (n : Int)] 5))); have HC6d := Lib.hid (HH6.out w6 A6 c6 p6 hr6.at w6 (Below.refl _ _)); clear hr6))
        | (revert HB7; intro HB7; have hb := HB7.out; refine step_append_onto rfl (.tmp 35) (.tmp 40) 22 rfl _ 5 i0 (.int .u8 0) 1 1 Tryd.underlying22 I0.out.1 I0.out.2.1 I0.out.2.2.1 I0.out.2.2.2 rfl (by decide) _ 35 (vals p7) rfl HO7.out (some ⟨_, 0, none⟩) 1 1 (vals [n]) rfl (fun e => by cases e) rfl (fun ad e => by injection e with e; subst e; exact World.news_of_block hb) (vals_one _) HMX.out.2.1 HMX.out.2.2 HZ7.out ?_; intro v8 w8 hown8 hb8; rw [← vals_append] at hown8; obtain ⟨A8, c8, rfl, hra8⟩ := row_own hown8 HL7.out; have HR8 := Lib.hid hra8; have HS8 := Lib.hid (HS7.out.past hb8 HW7.out); clear hown8 hb8 hra8)
        | (revert HO7; intro HO7; refine step_append_onto rfl (.tmp 35) (.tmp 40) 22 rfl _ 5 i0 (.int .u8 0) 1 1 Tryd.underlying22 I0.out.1 I0.out.2.1 I0.out.2.2.1 I0.out.2.2.2 rfl (by decide) _ 35 (vals p7) rfl (HO7.out.alloc _) (some ⟨w7.heap.size, 0, none⟩) 1 1 (vals [n]) rfl (fun e => by cases e) rfl (fun ad e => by injection e with e; subst e; exact World.news_of_block (heap_alloc_new w7 _)) (vals_one _) HMX.out.2.1 HMX.out.2.2 (Nat.le_trans HZ7.out (Nat.le_of_lt (HSZ.out w7 _))) ?_; intro v8 w8 hown8 hb8; rw [← vals_append] at hown8; obtain ⟨A8, c8, rfl, hra8⟩ := row_own hown8 HL7.out; have HR8 := Lib.hid hra8; have HS8 := Lib.hid ((HS7.out.made _).past hb8 HW7.out); clear hown8 hb8 hra8))
    all_goals
      (try go_wp2_with fail)
      go_meet
      exact ⟨A8, c8, p6, p7, rfl, hp7, hp6, HR8, HS8⟩
  case rest =>
    obtain ⟨A8, c8, p6, p7, rfl, hp7, hp6, HR8, HS8⟩ := hcut
    generalize wc = w8 at *
    have HP8 : Hid ((p7 ++ [n]) ++ (if n = 2 then Sb.lay ⟨f0, f1, f2, f3⟩ else []) = bd) := by
      show _ = _
      rw [HBD.out, hp7.out, hp6.out, hp5.out, hp4.out, hp3.out, hp1.out]
      simp only [List.append_assoc, List.nil_append]
    have HRE : Hid (∀ A' n' c' W, RowAt W bd n' A' c' → n' ≤ 59 → Calls Tryd.prog 12 #[.int .i64 3, .int .i64 0, .int .i64 (x : Int), .slice A' n' c'] W fun r w' => ∃ A3 c3, r = .returned (.slice A3 64 c3) ∧ SlIs A3 64 c3 ∧ Bs w' w'.heap.size A3 (Fr.enc 3 0 (x : Int) bd) ∧ Below W.heap.size W w') := fun A' n' c' W hr hn' =>
      reffrenc_any 3 0 x A' W.heap.size n' c' bd W (by decide) (by decide) hx (Nat.le_refl _) hr.1 hr.2.1 hn' hr.2.2
    clear HBD hp7 hp6 hp5 hp4 hp3 hp1 z0 z1 z2 z3 z4 z5 z6 z7 z8 z9 z10 z11 z12 z13 HT5a HT5d HT5 HX5 HH6 HX6 HY5 HS5 HR5 hx
    generalize hpp : p7 ++ [n] = p8 at *
    clear hpp
    obtain ⟨z0, z1, z2, z3, z4, z5, z6, z7, z8, z9, z10, z11, z12, z13⟩ := cells14 HS8.out.1
    by_cases h2 : n = 2
    · subst h2
      obtain ⟨ad, rfl⟩ := HA.out (by decide)
      obtain ⟨m0, m1, m2, m3⟩ := HG.out ad w8 HS8.out.2 rfl (by decide)
      have HW := Lib.hid (hf.out rfl)
      rw [if_pos rfl] at HP8
      clear HG HA hf
      go_wp2_with fail
      refine (refputlay_any A8 w8.heap.size 36 c8 p8 f0 f1 f2 f3 w8 (Nat.le_refl _) HR8.out.1 HR8.out.2.1 (by decide) HR8.out.2.2 HW.out).mono ?_
      rintro e w9 ⟨A9, n9, c9, p9, rfl, hp9, hn9, hr9⟩
      have HS9 := Lib.hid (HS8.out.next hr9.2.2.2.2 (by rfl) (by rfl) (by rfl) (by rfl))
      have k9 : n9 = 43 := hn9.out
      subst k9
      have hpb : p9 = bd := by rw [hp9.out]; exact HP8.out
      subst hpb
      have HRE9 := Lib.hid (HRE.out A9 43 c9 w9 hr9.at (by decide))
      clear hr9 HRE hp9 HP8 z0 z1 z2 z3 z4 z5 z6 z7 z8 z9 z10 z11 z12 z13 m0 m1 m2 m3
      go_wp2_with fail
      refine HRE9.out.mono ?_
      rintro r w10 ⟨A10, c10, rfl, hs10, hb10, hbel10⟩
      have HS10 := Lib.hid (HS9.out.next hbel10 (by rfl) (by rfl) (by rfl) (by rfl))
      have HB10 := Lib.hid (And.intro hs10 hb10)
      clear hs10 hb10 hbel10
      go_wp2
      go_ret
      exact ⟨A10, c10, rfl, HB10.out.1, HB10.out.2, HS10.out.2⟩
    · rw [if_neg h2, List.append_nil] at HP8
      have d2 : ((n : Int) == 2) = false := by rw [beq_eq_false_iff_ne]; omega
      have hpb : p8 = bd := HP8.out
      subst hpb
      have HRE9 := Lib.hid (HRE.out A8 36 c8 w8 HR8.out (by decide))
      clear HRE HP8 HG HA hf
      go_wp2_with fail
      refine HRE9.out.mono ?_
      rintro r w10 ⟨A10, c10, rfl, hs10, hb10, hbel10⟩
      have HS10 := Lib.hid (HS8.out.next hbel10 (by rfl) (by rfl) (by rfl) (by rfl))
      have HB10 := Lib.hid (And.intro hs10 hb10)
      clear hs10 hb10 hbel10
      go_wp2
      go_ret
      exact ⟨A10, c10, rfl, HB10.out.1, HB10.out.2, HS10.out.2⟩
theorem refsbenc_any (a0 a1 a2 a3 a4 t0 t1 t2 t3 h0 h1 h2 h3 x : Int) (A : Option Addr) (B n c : Nat) (l : List Sb.L) (w : World) (hB : B ≤ w.heap.size) (hl : Hid (l.length = n)) (hb : Hid (Ls w B A l)) (hv : Sb.valid ⟨a0, a1, a2, a3, a4, ⟨t0, t1, t2, t3⟩, ⟨h0, h1, h2, h3⟩, l⟩) (hx : 0 ≤ x ∧ x < 1048576) :
    Calls Tryd.prog 23 #[.agg #[.int .i64 a0, .int .i64 a1, .int .i64 a2, .int .i64 a3, .int .i64 a4, .int .i64 t0, .int .i64 t1, .int .i64 t2, .int .i64 t3, .int .i64 h0, .int .i64 h1, .int .i64 h2, .int .i64 h3, .slice A n c], .int .i64 x] w fun r w' => ∃ A3 c3, r = .returned (.slice A3 64 c3) ∧ SlIs A3 64 c3 ∧ Bs w' w'.heap.size A3 (Sb.enc x ⟨a0, a1, a2, a3, a4, ⟨t0, t1, t2, t3⟩, ⟨h0, h1, h2, h3⟩, l⟩) ∧ Below w.heap.size w w' := by
  obtain ⟨w1, w2, w3, w4, w5⟩ := valid_wr hv
  obtain ⟨⟨v0, v1, v2, v3, -⟩, -⟩ := hv
  simp only [hl.out] at v0 v1 v2 v3 w1 w2 w3 w4 w5
  obtain ⟨a0, rfl⟩ := Int.eq_ofNat_of_zero_le (show 0 ≤ a0 by omega)
  obtain ⟨a1, rfl⟩ := Int.eq_ofNat_of_zero_le (show 0 ≤ a1 by omega)
  obtain ⟨a2, rfl⟩ := Int.eq_ofNat_of_zero_le (show 0 ≤ a2 by omega)
  obtain ⟨a3, rfl⟩ := Int.eq_ofNat_of_zero_le (show 0 ≤ a3 by omega)
  obtain ⟨a4, rfl⟩ := Int.eq_ofNat_of_zero_le (show 0 ≤ a4 by omega)
  obtain ⟨x, rfl⟩ := Int.eq_ofNat_of_zero_le hx.1
  exact refsbenc_nat a0 a1 a2 a3 a4 x t0 t1 t2 t3 h0 h1 h2 h3 A B n c l w hB hl hb (by omega) (by omega) (by omega) (by omega) (by omega) w1 w2 w3 w4 (by omega)
end Go.Proofs.YtcjnhemlkahgoaaDoor
end
