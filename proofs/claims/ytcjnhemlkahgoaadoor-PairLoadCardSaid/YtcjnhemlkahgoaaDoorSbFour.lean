/-
  SbPut: The walks of superblock.putLayout and superblock.payload.
  SbEncode: The walk of superblock.Encode.
-/
import Derived.Test.YtcjnhemlkahgoaaDoorSbTwo
section
namespace Go.Proofs.YtcjnhemlkahgoaaDoor
open Go.RowKit
/-- n bytes l and seven more, a layout's. -/
def DidLay (w : World) (l : List Nat) (n : Nat) (L : Sb.L) (r : Ending) (w' : World) : Prop := ∃ A' n' c' p, r = .returned (.slice A' n' c') ∧ Hid (p = l ++ Sb.lay L) ∧ Hid (n' = n + 7) ∧ Row w p n' A' c' w'
set_option maxHeartbeats 1000000 in
theorem putlay_nat (A : Option Addr) (B n c : Nat) (l : List Nat) (a b d : Nat) (r : Int) (w : World) (hB : B ≤ w.heap.size) (hs : SlIs A n c) (hl : l.length = n) (hn : n ≤ 1000000) (hb : Hid (Bs w B A l)) (ha : a ≤ 4294967295) (hb2 : b ≤ 2) (hd : d ≤ 16) (hr : r = 0 ∨ Sb.pw r) :
    Calls Tryd.prog 78 #[.slice A n c, .agg #[.int .i64 (a : Int), .int .i64 (b : Int), .int .i64 r, .int .i64 (d : Int)]] w (DidLay w l n ⟨(a : Int), (b : Int), r, (d : Int)⟩) := by
  have HLY : Hid (Sb.lay ⟨(a : Int), (b : Int), r, (d : Int)⟩ = Wire.be 4 a ++ (Wire.be 1 b ++ (Wire.be 1 (Sb.ex r) ++ Wire.be 1 d))) := rfl
  have CE := Lib.hid (fun W => sbexponent_any r hr W)
  have HEX := Lib.hid (Sb.ex_le r)
  unfold DidLay
  generalize Sb.lay ⟨(a : Int), (b : Int), r, (d : Int)⟩ = ly at *
  generalize Sb.ex r = k at *
  clear hr
  have HS0 := Lib.hid (sd_new w #[.int .i64 (a : Int), .int .i64 (b : Int), .int .i64 r, .int .i64 (d : Int)] 24)
  have HN := Lib.hid hn
  have HL := Lib.hid hl
  have HSL := Lib.hid hs
  clear hs hl hn
  go_enter Tryd.func78, Tryd.ntmps78
  go_wp2_with fail
  generalize w.alloc (.cells #[.int .i64 (a : Int), .int .i64 (b : Int), .int .i64 r, .int .i64 (d : Int)] 24) = w0 at *
  refine (put_row A B n c l a 4 4 rfl w0 HSL.out HL.out (by have := HN.out; omega) (hb.out.below HS0.out.2 hB) (by decide) (by decide)).mono ?_
  rintro e w1 ⟨A1, n1, c1, p1, rfl, hp1, hn1, hr1⟩
  have HS1 := Lib.hid (HS0.out.next hr1.2.2.2.2 (by rfl) (by rfl) (by rfl) (by rfl))
  have HR1 := Lib.hid hr1
  clear hr1
  obtain ⟨z0, z1, z2, z3⟩ := sd_cells4 HS1.out
  go_wp2_with fail
  refine (put_row A1 w1.heap.size n1 c1 p1 b 1 1 rfl w1 HR1.out.2.2.1 HR1.out.2.1 (by have := HN.out; have := hn1.out; omega) HR1.out.2.2.2.1 (by decide) (by decide)).mono ?_
  rintro e w2 ⟨A2, n2, c2, p2, rfl, hp2, hn2, hr2⟩
  have HS2 := Lib.hid (HS1.out.next hr2.2.2.2.2 (by rfl) (by rfl) (by rfl) (by rfl))
  have HR2 := Lib.hid hr2
  clear hr2 z0 z1 z2 z3
  obtain ⟨z0, z1, z2, z3⟩ := sd_cells4 HS2.out
  go_wp2_with fail
  refine (CE.out _).mono ?_
  rintro e w' ⟨rfl, rfl⟩
  go_wp2_with fail
  refine (put_row A2 w2.heap.size n2 c2 p2 k 1 1 rfl w2 HR2.out.2.2.1 HR2.out.2.1 (by have := HN.out; have := hn1.out; have := hn2.out; omega) HR2.out.2.2.2.1 (by decide) (by decide)).mono ?_
  rintro e w3 ⟨A3, n3, c3, p3, rfl, hp3, hn3, hr3⟩
  have HS3 := Lib.hid (HS2.out.next hr3.2.2.2.2 (by rfl) (by rfl) (by rfl) (by rfl))
  have HR3 := Lib.hid hr3
  clear hr3 z0 z1 z2 z3
  obtain ⟨z0, z1, z2, z3⟩ := sd_cells4 HS3.out
  go_wp2_with fail
  refine (put_row A3 w3.heap.size n3 c3 p3 d 1 1 rfl w3 HR3.out.2.2.1 HR3.out.2.1 (by have := HN.out; have := hn1.out; have := hn2.out; have := hn3.out; omega) HR3.out.2.2.2.1 (by decide) (by decide)).mono ?_
  rintro e w4 ⟨A4, n4, c4, p4, rfl, hp4, hn4, hr4⟩
  have HS4 := Lib.hid (HS3.out.next hr4.2.2.2.2 (by rfl) (by rfl) (by rfl) (by rfl))
  have HR4 := Lib.hid hr4
  clear hr4 z0 z1 z2 z3
  go_wp2
  go_ret
  refine ⟨A4, n4, c4, p4, rfl, ?_, ?_, ownsRow_mono HR4.out.1 HS3.out.2.size, HR4.out.2.1, HR4.out.2.2.1, HR4.out.2.2.2.1, HS4.out.2⟩
  · show _ = _
    rw [hp4.out, hp3.out, hp2.out, hp1.out, HLY.out]
    simp only [List.append_assoc]
  · have := hn1.out
    have := hn2.out
    have := hn3.out
    have := hn4.out
    show _ = _
    omega
/-- A layout that can be written. -/
def Sb.Wr (L : Sb.L) : Prop := Sb.form L ∨ L = Sb.L0
theorem wr_nat {L : Sb.L} (h : Sb.Wr L) : ∃ (a b d : Nat), L = ⟨(a : Int), (b : Int), L.rs, (d : Int)⟩ ∧ a ≤ 4294967295 ∧ b ≤ 2 ∧ d ≤ 16 ∧ (L.rs = 0 ∨ Sb.pw L.rs) := by
  rcases h with ⟨h1, h2, h3, h4⟩ | rfl
  · obtain ⟨i, v, r, g⟩ := L
    simp only at h1 h2 h3 h4 ⊢
    obtain ⟨i, rfl⟩ := Int.eq_ofNat_of_zero_le (show 0 ≤ i by omega)
    obtain ⟨v, rfl⟩ := Int.eq_ofNat_of_zero_le (show 0 ≤ v by omega)
    obtain ⟨g, rfl⟩ := Int.eq_ofNat_of_zero_le (show 0 ≤ g by omega)
    exact ⟨i, v, g, rfl, by omega, by omega, by omega, .inr h3⟩
  · exact ⟨0, 0, 0, rfl, by decide, by decide, by decide, .inl rfl⟩
theorem putlay_any (A : Option Addr) (B n c : Nat) (l : List Nat) (i v r g : Int) (w : World) (hB : B ≤ w.heap.size) (hs : SlIs A n c) (hl : l.length = n) (hn : n ≤ 1000000) (hb : Bs w B A l) (hw : Sb.Wr ⟨i, v, r, g⟩) :
    Calls Tryd.prog 78 #[.slice A n c, .agg #[.int .i64 i, .int .i64 v, .int .i64 r, .int .i64 g]] w (DidLay w l n ⟨i, v, r, g⟩) := by
  obtain ⟨a, b, d, e, h1, h2, h3, h4⟩ := wr_nat hw
  injection e with e0 e1 _ e3
  subst e0 e1 e3
  exact putlay_nat A B n c l a b d r w hB hs hl hn hb h1 h2 h3 h4
set_option maxHeartbeats 4000000 in
theorem sbpayload_nat (a0 a1 a2 a3 a4 : Nat) (t0 t1 t2 t3 h0 h1 h2 h3 : Int) (A : Option Addr) (B n c : Nat) (l : List Sb.L) (w : World) (hB : B ≤ w.heap.size) (hl : Hid (l.length = n)) (hb : Hid (Ls w B A l)) (q0 : a0 ≤ 1099511627775) (q1 : a1 ≤ 3) (q2 : a2 ≤ 4294967295) (q3 : a3 ≤ 281474976710655) (q4 : a4 ≤ 549755813888) (ht : Hid (Sb.Wr ⟨t0, t1, t2, t3⟩)) (hh : Hid (Sb.Wr ⟨h0, h1, h2, h3⟩)) (hn : n ≤ 2) (hf : Hid (n = 2 → Sb.Wr (l.getD 1 Sb.L0))) :
    Calls Tryd.prog 58 #[.agg #[.int .i64 (a0 : Int), .int .i64 (a1 : Int), .int .i64 (a2 : Int), .int .i64 (a3 : Int), .int .i64 (a4 : Int), .int .i64 t0, .int .i64 t1, .int .i64 t2, .int .i64 t3, .int .i64 h0, .int .i64 h1, .int .i64 h2, .int .i64 h3, .slice A n c]] w fun r w' => ∃ A' n' c', r = .returned (.slice A' n' c') ∧ Row w (Sb.body ⟨(a0 : Int), (a1 : Int), (a2 : Int), (a3 : Int), (a4 : Int), ⟨t0, t1, t2, t3⟩, ⟨h0, h1, h2, h3⟩, l⟩) n' A' c' w' := by
  have HBD : Hid (Sb.body ⟨(a0 : Int), (a1 : Int), (a2 : Int), (a3 : Int), (a4 : Int), ⟨t0, t1, t2, t3⟩, ⟨h0, h1, h2, h3⟩, l⟩ = Wire.be 5 a0 ++ (Wire.be 1 a1 ++ (Wire.be 4 a2 ++ (Wire.be 6 a3 ++ (Wire.be 5 a4 ++ (Sb.lay ⟨t0, t1, t2, t3⟩ ++ (Sb.lay ⟨h0, h1, h2, h3⟩ ++ (Wire.be 1 n ++ (if n = 2 then Sb.lay (l.getD 1 Sb.L0) else []))))))))) := by
    show _ = _
    unfold Sb.body Sb.more
    simp only [Int.toNat_natCast, hl.out]
  generalize Sb.body ⟨(a0 : Int), (a1 : Int), (a2 : Int), (a3 : Int), (a4 : Int), ⟨t0, t1, t2, t3⟩, ⟨h0, h1, h2, h3⟩, l⟩ = bd at *
  obtain ⟨f0, f1, f2, f3, HY⟩ : ∃ a0 a1 a2 a3, Hid (l.getD 1 Sb.L0 = ⟨a0, a1, a2, a3⟩) := ⟨_, _, _, _, rfl⟩
  rw [HY.out] at HBD hf
  have HG : Hid (∀ ad W, Below w.heap.size w W → A = some ad → 1 < n → W.cell? ⟨ad.block, ad.off + 4, none⟩ = some (.int .i64 f0) ∧ W.cell? ⟨ad.block, ad.off + 5, none⟩ = some (.int .i64 f1) ∧ W.cell? ⟨ad.block, ad.off + 6, none⟩ = some (.int .i64 f2) ∧ W.cell? ⟨ad.block, ad.off + 7, none⟩ = some (.int .i64 f3)) := fun ad W hW e hn => by
    subst e
    exact (hb.out.below hW hB).second (by rw [hl.out]; exact hn) _ _ _ _ HY.out
  have HA : Hid (1 < n → ∃ ad, A = some ad) := fun hn => ls_some hb.out (k := 1) (by rw [hl.out]; exact hn)
  clear hl hb hB HY
  have HS0 := Lib.hid (sd_new w #[.int .i64 (a0 : Int), .int .i64 (a1 : Int), .int .i64 (a2 : Int), .int .i64 (a3 : Int), .int .i64 (a4 : Int), .int .i64 t0, .int .i64 t1, .int .i64 t2, .int .i64 t3, .int .i64 h0, .int .i64 h1, .int .i64 h2, .int .i64 h3, .slice A n c] 27)
  go_enter Tryd.func58, Tryd.ntmps58
  go_upto_region 1 with fail
  generalize w.alloc (.cells _ 27) = w0 at *
  obtain ⟨z0, z1, z2, z3, z4, z5, z6, z7, z8, z9, z10, z11, z12, z13⟩ := cells14 HS0.out.1
  go_wp2_with fail
  refine (put_row none 0 0 0 [] a0 5 5 rfl w0 sl_nil rfl (by decide) (bs_nil _ _) (by decide) (by decide)).mono ?_
  rintro e w1 ⟨A1, n1, c1, p1, rfl, hp1, hn1, hr1⟩
  have e1 : n1 = 5 := hn1.out
  subst e1
  have HS1 := Lib.hid (HS0.out.next hr1.2.2.2.2 (by rfl) (by rfl) (by rfl) (by rfl))
  have HR1 := Lib.hid hr1
  clear hr1 z0 z1 z2 z3 z4 z5 z6 z7 z8 z9 z10 z11 z12 z13
  obtain ⟨z0, z1, z2, z3, z4, z5, z6, z7, z8, z9, z10, z11, z12, z13⟩ := cells14 HS1.out.1
  go_wp2_with fail
  refine (put_row A1 w1.heap.size 5 c1 p1 a1 1 1 rfl w1 HR1.out.2.2.1 HR1.out.2.1 (by decide) HR1.out.2.2.2.1 (by decide) (by decide)).mono ?_
  rintro e w2 ⟨A2, n2, c2, p2, rfl, hp2, hn2, hr2⟩
  have e2 : n2 = 6 := hn2.out
  subst e2
  have HS2 := Lib.hid (HS1.out.next hr2.2.2.2.2 (by rfl) (by rfl) (by rfl) (by rfl))
  have HR2 := Lib.hid hr2
  clear hr2 z0 z1 z2 z3 z4 z5 z6 z7 z8 z9 z10 z11 z12 z13
  obtain ⟨z0, z1, z2, z3, z4, z5, z6, z7, z8, z9, z10, z11, z12, z13⟩ := cells14 HS2.out.1
  go_wp2_with fail
  refine (put_row A2 w2.heap.size 6 c2 p2 a2 4 4 rfl w2 HR2.out.2.2.1 HR2.out.2.1 (by decide) HR2.out.2.2.2.1 (by decide) (by decide)).mono ?_
  rintro e w3 ⟨A3, n3, c3, p3, rfl, hp3, hn3, hr3⟩
  have e3 : n3 = 10 := hn3.out
  subst e3
  have HS3 := Lib.hid (HS2.out.next hr3.2.2.2.2 (by rfl) (by rfl) (by rfl) (by rfl))
  have HR3 := Lib.hid hr3
  clear hr3 z0 z1 z2 z3 z4 z5 z6 z7 z8 z9 z10 z11 z12 z13
  obtain ⟨z0, z1, z2, z3, z4, z5, z6, z7, z8, z9, z10, z11, z12, z13⟩ := cells14 HS3.out.1
  go_wp2_with fail
  refine (put_row A3 w3.heap.size 10 c3 p3 a3 6 6 rfl w3 HR3.out.2.2.1 HR3.out.2.1 (by decide) HR3.out.2.2.2.1 (by decide) (by decide)).mono ?_
  rintro e w4 ⟨A4, n4, c4, p4, rfl, hp4, hn4, hr4⟩
  have e4 : n4 = 16 := hn4.out
  subst e4
  have HS4 := Lib.hid (HS3.out.next hr4.2.2.2.2 (by rfl) (by rfl) (by rfl) (by rfl))
  have HR4 := Lib.hid hr4
  clear hr4 z0 z1 z2 z3 z4 z5 z6 z7 z8 z9 z10 z11 z12 z13
  obtain ⟨z0, z1, z2, z3, z4, z5, z6, z7, z8, z9, z10, z11, z12, z13⟩ := cells14 HS4.out.1
  go_wp2_with fail
  refine (put_row A4 w4.heap.size 16 c4 p4 a4 5 5 rfl w4 HR4.out.2.2.1 HR4.out.2.1 (by decide) HR4.out.2.2.2.1 (by decide) (by decide)).mono ?_
  rintro e w5 ⟨A5, n5, c5, p5, rfl, hp5, hn5, hr5⟩
  have e5 : n5 = 21 := hn5.out
  subst e5
  have HS5 := Lib.hid (HS4.out.next hr5.2.2.2.2 (by rfl) (by rfl) (by rfl) (by rfl))
  have HR5 := Lib.hid hr5
  clear hr5 z0 z1 z2 z3 z4 z5 z6 z7 z8 z9 z10 z11 z12 z13
  obtain ⟨z0, z1, z2, z3, z4, z5, z6, z7, z8, z9, z10, z11, z12, z13⟩ := cells14 HS5.out.1
  go_wp2_with fail
  refine (putlay_any A5 w5.heap.size 21 c5 p5 t0 t1 t2 t3 w5 (Nat.le_refl _) HR5.out.2.2.1 HR5.out.2.1 (by decide) HR5.out.2.2.2.1 ht.out).mono ?_
  rintro e w6 ⟨A6, n6, c6, p6, rfl, hp6, hn6, hr6⟩
  have e6 : n6 = 28 := hn6.out
  subst e6
  have HS6 := Lib.hid (HS5.out.next hr6.2.2.2.2 (by rfl) (by rfl) (by rfl) (by rfl))
  have HR6 := Lib.hid hr6
  clear hr6 z0 z1 z2 z3 z4 z5 z6 z7 z8 z9 z10 z11 z12 z13
  obtain ⟨z0, z1, z2, z3, z4, z5, z6, z7, z8, z9, z10, z11, z12, z13⟩ := cells14 HS6.out.1
  go_wp2_with fail
  refine (putlay_any A6 w6.heap.size 28 c6 p6 h0 h1 h2 h3 w6 (Nat.le_refl _) HR6.out.2.2.1 HR6.out.2.1 (by decide) HR6.out.2.2.2.1 hh.out).mono ?_
  rintro e w7 ⟨A7, n7, c7, p7, rfl, hp7, hn7, hr7⟩
  have e7 : n7 = 35 := hn7.out
  subst e7
  have HS7 := Lib.hid (HS6.out.next hr7.2.2.2.2 (by rfl) (by rfl) (by rfl) (by rfl))
  have HR7 := Lib.hid hr7
  clear hr7 z0 z1 z2 z3 z4 z5 z6 z7 z8 z9 z10 z11 z12 z13
  obtain ⟨z0, z1, z2, z3, z4, z5, z6, z7, z8, z9, z10, z11, z12, z13⟩ := cells14 HS7.out.1
  go_wp2_with fail
  refine (put_row A7 w7.heap.size 35 c7 p7 n 1 1 rfl w7 HR7.out.2.2.1 HR7.out.2.1 (by decide) HR7.out.2.2.2.1 (by decide) (by decide)).mono ?_
  rintro e w8 ⟨A8, n8, c8, p8, rfl, hp8, hn8, hr8⟩
  have e8 : n8 = 36 := hn8.out
  subst e8
  have HS8 := Lib.hid (HS7.out.next hr8.2.2.2.2 (by rfl) (by rfl) (by rfl) (by rfl))
  have HR8 := Lib.hid hr8
  have HP8 : Hid (p8 ++ (if n = 2 then Sb.lay ⟨f0, f1, f2, f3⟩ else []) = bd) := by
    show _ = _
    rw [HBD.out, hp8.out, hp7.out, hp6.out, hp5.out, hp4.out, hp3.out, hp2.out, hp1.out]
    simp only [List.append_assoc, List.nil_append]
  clear hr8 HBD hp8 hp7 hp6 hp5 hp4 hp3 hp2 hp1 z0 z1 z2 z3 z4 z5 z6 z7 z8 z9 z10 z11 z12 z13
  obtain ⟨z0, z1, z2, z3, z4, z5, z6, z7, z8, z9, z10, z11, z12, z13⟩ := cells14 HS8.out.1
  by_cases h2 : n = 2
  · subst h2
    obtain ⟨ad, rfl⟩ := HA.out (by decide)
    obtain ⟨m0, m1, m2, m3⟩ := HG.out ad w8 HS8.out.2 rfl (by decide)
    have HW := Lib.hid (hf.out rfl)
    rw [if_pos rfl] at HP8
    clear HG HA hf
    go_wp2_with fail
    refine (putlay_any A8 w8.heap.size 36 c8 p8 f0 f1 f2 f3 w8 (Nat.le_refl _) HR8.out.2.2.1 HR8.out.2.1 (by decide) HR8.out.2.2.2.1 HW.out).mono ?_
    rintro e w9 ⟨A9, n9, c9, p9, rfl, hp9, hn9, hr9⟩
    have HS9 := Lib.hid (HS8.out.next hr9.2.2.2.2 (by rfl) (by rfl) (by rfl) (by rfl))
    have HR9 := Lib.hid hr9
    have e9 : n9 = 43 := hn9.out
    subst e9
    clear hr9
    go_wp2
    go_ret
    have hp : bd = p9 := by rw [← HP8.out, hp9.out]
    rw [hp]
    exact ⟨A9, 43, c9, rfl, ownsRow_mono HR9.out.1 HS8.out.2.size, HR9.out.2.1, HR9.out.2.2.1, HR9.out.2.2.2.1, HS9.out.2⟩
  · rw [if_neg h2, List.append_nil] at HP8
    have d2 : ((n : Int) == 2) = false := by rw [beq_eq_false_iff_ne]; omega
    go_wp2
    go_ret
    rw [← HP8.out]
    exact ⟨A8, 36, c8, rfl, ownsRow_mono HR8.out.1 HS7.out.2.size, HR8.out.2.1, HR8.out.2.2.1, HR8.out.2.2.2.1, HS8.out.2⟩
end Go.Proofs.YtcjnhemlkahgoaaDoor
end
section
namespace Go.Proofs.YtcjnhemlkahgoaaDoor
open Go.RowKit
theorem valid_wr {s : Sb.S} (hv : Sb.valid s) : Sb.Wr s.t ∧ Sb.Wr s.h ∧ s.f.length ≤ 2 ∧ (s.f.length = 2 → Sb.Wr (s.f.getD 1 Sb.L0)) ∧ (0 ≤ s.phase ∧ s.phase ≤ 3) := by
  have hf := Sb.valid_f hv
  refine ⟨.inl hv.1.2.2.2.2, ?_⟩
  rcases hf with ⟨h, h2, h3⟩ | ⟨h, h2, h3⟩ | ⟨g, h, h2, hg, h3⟩
  · rw [h, h3]
    exact ⟨.inr h2, by decide, (fun e => by cases e), by decide⟩
  · rw [h, h3]
    exact ⟨.inl h2, by simp, (fun e => by cases e), by decide⟩
  · rw [h, h3]
    exact ⟨.inl h2, by simp, fun _ => .inl hg, by decide⟩
theorem sbpayload_any (a0 a1 a2 a3 a4 t0 t1 t2 t3 h0 h1 h2 h3 : Int) (A : Option Addr) (B n c : Nat) (l : List Sb.L) (w : World) (hB : B ≤ w.heap.size) (hl : Hid (l.length = n)) (hb : Hid (Ls w B A l)) (hv : Sb.valid ⟨a0, a1, a2, a3, a4, ⟨t0, t1, t2, t3⟩, ⟨h0, h1, h2, h3⟩, l⟩) :
    Calls Tryd.prog 58 #[.agg #[.int .i64 a0, .int .i64 a1, .int .i64 a2, .int .i64 a3, .int .i64 a4, .int .i64 t0, .int .i64 t1, .int .i64 t2, .int .i64 t3, .int .i64 h0, .int .i64 h1, .int .i64 h2, .int .i64 h3, .slice A n c]] w fun r w' => ∃ A' n' c', r = .returned (.slice A' n' c') ∧ Row w (Sb.body ⟨a0, a1, a2, a3, a4, ⟨t0, t1, t2, t3⟩, ⟨h0, h1, h2, h3⟩, l⟩) n' A' c' w' := by
  obtain ⟨w1, w2, w3, w4, w5⟩ := valid_wr hv
  obtain ⟨⟨v0, v1, v2, v3, -⟩, -⟩ := hv
  simp only [hl.out] at v0 v1 v2 v3 w1 w2 w3 w4 w5
  obtain ⟨a0, rfl⟩ := Int.eq_ofNat_of_zero_le (show 0 ≤ a0 by omega)
  obtain ⟨a1, rfl⟩ := Int.eq_ofNat_of_zero_le (show 0 ≤ a1 by omega)
  obtain ⟨a2, rfl⟩ := Int.eq_ofNat_of_zero_le (show 0 ≤ a2 by omega)
  obtain ⟨a3, rfl⟩ := Int.eq_ofNat_of_zero_le (show 0 ≤ a3 by omega)
  obtain ⟨a4, rfl⟩ := Int.eq_ofNat_of_zero_le (show 0 ≤ a4 by omega)
  exact sbpayload_nat a0 a1 a2 a3 a4 t0 t1 t2 t3 h0 h1 h2 h3 A B n c l w hB hl hb (by omega) (by omega) (by omega) (by omega) (by omega) w1 w2 w3 w4
set_option maxHeartbeats 1000000 in
theorem sbencode_any (a0 a1 a2 a3 a4 t0 t1 t2 t3 h0 h1 h2 h3 x : Int) (A : Option Addr) (B n c : Nat) (l : List Sb.L) (w : World) (hB : B ≤ w.heap.size) (hs : SlIs A n c) (hl : Hid (l.length = n)) (hb : Hid (Ls w B A l)) (ht : Hid (TabW w)) (hz : 0 < w.heap.size) :
    Calls Tryd.prog 31 #[.agg #[.int .i64 a0, .int .i64 a1, .int .i64 a2, .int .i64 a3, .int .i64 a4, .int .i64 t0, .int .i64 t1, .int .i64 t2, .int .i64 t3, .int .i64 h0, .int .i64 h1, .int .i64 h2, .int .i64 h3, .slice A n c], .int .i64 x] w (FrEnc w (Sb.enc x ⟨a0, a1, a2, a3, a4, ⟨t0, t1, t2, t3⟩, ⟨h0, h1, h2, h3⟩, l⟩) (Sb.err ⟨a0, a1, a2, a3, a4, ⟨t0, t1, t2, t3⟩, ⟨h0, h1, h2, h3⟩, l⟩ x)) := by
  have HV : Hid (∀ W, Below w.heap.size w W → Calls Tryd.prog 36 #[.agg #[.int .i64 a0, .int .i64 a1, .int .i64 a2, .int .i64 a3, .int .i64 a4, .int .i64 t0, .int .i64 t1, .int .i64 t2, .int .i64 t3, .int .i64 h0, .int .i64 h1, .int .i64 h2, .int .i64 h3, .slice A n c]] W fun r w' => r = .returned (.bool (decide (Sb.valid ⟨a0, a1, a2, a3, a4, ⟨t0, t1, t2, t3⟩, ⟨h0, h1, h2, h3⟩, l⟩))) ∧ Below W.heap.size W w') := fun W hW =>
    sbvalid_any a0 a1 a2 a3 a4 t0 t1 t2 t3 h0 h1 h2 h3 A B n c l W (Nat.le_trans hB hW.size) hs hl (hb.out.below hW hB)
  have HS0 := Lib.hid (sd_new w #[.int .i64 a0, .int .i64 a1, .int .i64 a2, .int .i64 a3, .int .i64 a4, .int .i64 t0, .int .i64 t1, .int .i64 t2, .int .i64 t3, .int .i64 h0, .int .i64 h1, .int .i64 h2, .int .i64 h3, .slice A n c] 27)
  by_cases hv : Sb.valid ⟨a0, a1, a2, a3, a4, ⟨t0, t1, t2, t3⟩, ⟨h0, h1, h2, h3⟩, l⟩
  · rw [decide_eq_true hv] at HV
    have HP : Hid (∀ W, Below w.heap.size w W → Calls Tryd.prog 58 #[.agg #[.int .i64 a0, .int .i64 a1, .int .i64 a2, .int .i64 a3, .int .i64 a4, .int .i64 t0, .int .i64 t1, .int .i64 t2, .int .i64 t3, .int .i64 h0, .int .i64 h1, .int .i64 h2, .int .i64 h3, .slice A n c]] W fun r w' => ∃ A' n' c', r = .returned (.slice A' n' c') ∧ Row W (Sb.body ⟨a0, a1, a2, a3, a4, ⟨t0, t1, t2, t3⟩, ⟨h0, h1, h2, h3⟩, l⟩) n' A' c' w') := fun W hW =>
      sbpayload_any a0 a1 a2 a3 a4 t0 t1 t2 t3 h0 h1 h2 h3 A B n c l W (Nat.le_trans hB hW.size) hl (hb.out.below hW hB) hv
    have HBL := Lib.hid (Sb.body_le ⟨a0, a1, a2, a3, a4, ⟨t0, t1, t2, t3⟩, ⟨h0, h1, h2, h3⟩, l⟩)
    have he0 : ∀ n', n' ≤ 43 → Fr.err 3 0 x n' = Sb.err ⟨a0, a1, a2, a3, a4, ⟨t0, t1, t2, t3⟩, ⟨h0, h1, h2, h3⟩, l⟩ x := fun n' hn' => by
      rw [Sb.err_fr _ _ hv]
      unfold Fr.err
      by_cases hm : Fr.may 3 0 x
      · rw [if_pos hm, if_pos hm, if_neg (by omega)]
      · rw [if_neg hm, if_neg hm]
    have HEN : Hid (∀ W A n' c', Below w.heap.size w W → SlIs A n' c' → (Sb.body ⟨a0, a1, a2, a3, a4, ⟨t0, t1, t2, t3⟩, ⟨h0, h1, h2, h3⟩, l⟩).length = n' → Bs W W.heap.size A (Sb.body ⟨a0, a1, a2, a3, a4, ⟨t0, t1, t2, t3⟩, ⟨h0, h1, h2, h3⟩, l⟩) → Calls Tryd.prog 53 #[.int .i64 3, .int .i64 0, .int .i64 x, .slice A n' c'] W (FrEnc W (Sb.enc x ⟨a0, a1, a2, a3, a4, ⟨t0, t1, t2, t3⟩, ⟨h0, h1, h2, h3⟩, l⟩) (Sb.err ⟨a0, a1, a2, a3, a4, ⟨t0, t1, t2, t3⟩, ⟨h0, h1, h2, h3⟩, l⟩ x))) := fun W A n' c' hW h1 h3 h2 => by
      have h := frencode_any 3 0 x A W.heap.size n' c' _ W (by decide) (Nat.le_refl _) h1 h3 h2 (ht.out.below hW hz) (Nat.lt_of_lt_of_le hz hW.size)
      rwa [he0 n' (by rw [← h3]; exact HBL.out)] at h
    clear he0 hv HBL hl hb hs hB
    generalize Sb.enc x ⟨a0, a1, a2, a3, a4, ⟨t0, t1, t2, t3⟩, ⟨h0, h1, h2, h3⟩, l⟩ = en at *
    generalize Sb.body ⟨a0, a1, a2, a3, a4, ⟨t0, t1, t2, t3⟩, ⟨h0, h1, h2, h3⟩, l⟩ = bd at *
    generalize Sb.err ⟨a0, a1, a2, a3, a4, ⟨t0, t1, t2, t3⟩, ⟨h0, h1, h2, h3⟩, l⟩ x = er at *
    unfold FrEnc at HEN ⊢
    go_enter Tryd.func31, Tryd.ntmps31
    go_upto_region 1 with fail
    generalize w.alloc (.cells _ 27) = w0 at *
    obtain ⟨x0, x1, x2, x3, x4, x5, x6, x7, x8, x9, x10, x11, x12, x13⟩ := cells14 HS0.out.1
    go_wp2_with fail
    refine (HV.out _ HS0.out.2).mono ?_
    rintro r w1 ⟨rfl, hb1⟩
    have HS1 := Lib.hid (HS0.out.next hb1 (by rfl) (by rfl) (by rfl) (by rfl))
    clear hb1 x0 x1 x2 x3 x4 x5 x6 x7 x8 x9 x10 x11 x12 x13
    obtain ⟨x0, x1, x2, x3, x4, x5, x6, x7, x8, x9, x10, x11, x12, x13⟩ := cells14 HS1.out.1
    go_wp2_with fail
    refine (HP.out _ HS1.out.2).mono ?_
    rintro r w2 ⟨A2, n2, c2, rfl, hr2⟩
    have HS2 := Lib.hid (HS1.out.next hr2.2.2.2.2 (by rfl) (by rfl) (by rfl) (by rfl))
    have HR2 := Lib.hid hr2
    clear hr2 x0 x1 x2 x3 x4 x5 x6 x7 x8 x9 x10 x11 x12 x13
    go_wp2_with fail
    refine (HEN.out _ _ _ _ HS2.out.2 HR2.out.2.2.1 HR2.out.2.1 HR2.out.2.2.2.1).mono ?_
    rintro r w3 ⟨A3, n3, c3, rfl, hs3, hy3, hx3, hb3⟩
    have HS3 := Lib.hid (HS2.out.next hb3 (by rfl) (by rfl) (by rfl) (by rfl))
    have HY3 := Lib.hid (And.intro hs3 (And.intro hy3 hx3))
    clear hs3 hy3 hx3 hb3
    go_wp2
    go_ret2
    exact ⟨A3, n3, c3, rfl, HY3.out.1, fun h => ⟨(HY3.out.2.1 h).1, ownsRow_mono (HY3.out.2.1 h).2 HS2.out.2.size⟩, HY3.out.2.2, HS3.out.2⟩
  · rw [decide_eq_false hv] at HV
    have he0 : Sb.err ⟨a0, a1, a2, a3, a4, ⟨t0, t1, t2, t3⟩, ⟨h0, h1, h2, h3⟩, l⟩ x = 4 := by unfold Sb.err; rw [if_neg hv]
    rw [he0]
    clear he0 hv hl hb hs hB
    go_enter Tryd.func31, Tryd.ntmps31
    go_upto_region 1 with fail
    generalize w.alloc (.cells _ 27) = w0 at *
    obtain ⟨x0, x1, x2, x3, x4, x5, x6, x7, x8, x9, x10, x11, x12, x13⟩ := cells14 HS0.out.1
    go_wp2_with fail
    refine (HV.out _ HS0.out.2).mono ?_
    rintro r w1 ⟨rfl, hb1⟩
    have HS1 := Lib.hid (HS0.out.next hb1 (by rfl) (by rfl) (by rfl) (by rfl))
    clear hb1
    go_wp2
    go_ret2
    exact ⟨none, 0, 0, rfl, sl_nil, fun e => absurd e (by decide), fun _ => rfl, HS1.out.2⟩
end Go.Proofs.YtcjnhemlkahgoaaDoor
end
