/-
  The walk of the reference's Encode of headers.
-/
import Derived.Test.YtjfgnojmdbfnmaaDoorHdEncode
namespace Go.Proofs.YtjfgnojmdbfnmaaDoor
open Go.RowKit
theorem bs_box (w w0 : World) (a b : Nat) (ha : a < 256) (hb : b < 256) (h : Below w.heap.size w w0) : Bs (w0.alloc (.cells #[.int .u8 (a : Int), .int .u8 (b : Int)] 5)) (w0.heap.size + 1) (some ⟨w0.heap.size, 0, none⟩) [a, b] ∧ Below w.heap.size w (w0.alloc (.cells #[.int .u8 (a : Int), .int .u8 (b : Int)] 5)) :=
  ⟨bs_lit w0 [a, b] (fun x hx => by rcases List.mem_cons.1 hx with rfl | hx; exact ha; rw [List.mem_singleton.1 hx]; exact hb) (0, 0), h.alloc h.size _⟩
set_option maxHeartbeats 1000000 in
theorem refhdenc_nat (a b c d e f x : Nat) (w : World) (ha : a ≤ 2) (hb : b ≤ 15) (hc : c ≤ 4294967295) (hd : d ≤ 281474976710655) (he : e ≤ 281474976710655) (hf : f ≤ 549755813888) (hx : x < 1048576) :
    Calls Tryd.prog 18 #[.agg #[.int .i64 (a : Int), .int .i64 (b : Int), .int .i64 (c : Int), .int .i64 (d : Int), .int .i64 (e : Int), .int .i64 (f : Int)], .int .i64 (x : Int)] w fun r w' => ∃ A3 c3, r = .returned (.slice A3 64 c3) ∧ SlIs A3 64 c3 ∧ Bs w' w'.heap.size A3 (Hd.enc (x : Int) ⟨(a : Int), (b : Int), (c : Int), (d : Int), (e : Int), (f : Int)⟩) ∧ Below w.heap.size w w' := by
  have HEB : Hid (Hd.enc (x : Int) ⟨(a : Int), (b : Int), (c : Int), (d : Int), (e : Int), (f : Int)⟩ = Fr.enc 1 0 (x : Int) (((([a, b] ++ Wire.be 4 c) ++ Wire.be 6 d) ++ Wire.be 6 e) ++ Wire.be 5 f)) := by
    show _ = _
    have e1 : a % 256 = a := by omega
    have e2 : b % 256 = b := by omega
    unfold Hd.enc Hd.body
    simp only [Int.toNat_natCast, Rc.be_one, e1, e2, List.append_assoc, List.cons_append, List.nil_append]
  generalize Hd.enc (x : Int) ⟨(a : Int), (b : Int), (c : Int), (d : Int), (e : Int), (f : Int)⟩ = en at *
  have ea : IntKind.u8.wrap (a : Int) = (a : Int) := by rw [IntKind.wrap_u8]; omega
  have eb : IntKind.u8.wrap (b : Int) = (b : Int) := by rw [IntKind.wrap_u8]; omega
  have HAB : Hid (a < 256 ∧ b < 256) := ⟨by omega, by omega⟩
  have HS0 := Lib.hid (sd_new w #[.int .i64 (a : Int), .int .i64 (b : Int), .int .i64 (c : Int), .int .i64 (d : Int), .int .i64 (e : Int), .int .i64 (f : Int)] 23)
  go_enter Tryd.func18, Tryd.ntmps18
  go_upto_region 1 with fail
  generalize w.alloc (.cells #[.int .i64 (a : Int), .int .i64 (b : Int), .int .i64 (c : Int), .int .i64 (d : Int), .int .i64 (e : Int), .int .i64 (f : Int)] 23) = w0 at *
  obtain ⟨z0, z1, z2, z3, z4, z5⟩ := six_cells HS0.out.1
  have hbb := bs_box w w0 a b HAB.out.1 HAB.out.2 HS0.out.2
  have HS1 : Hid (Sd w w.heap.size (.cells #[.int .i64 (a : Int), .int .i64 (b : Int), .int .i64 (c : Int), .int .i64 (d : Int), .int .i64 (e : Int), .int .i64 (f : Int)] 23 (0, 0)) (w0.alloc (.cells #[.int .u8 (a : Int), .int .u8 (b : Int)] 5))) := ⟨(heap_alloc_old _ _ (Array.getElem?_eq_some_iff.1 HS0.out.1).1).trans HS0.out.1, hbb.2⟩
  have HB1 : Hid (Bs (w0.alloc (.cells #[.int .u8 (a : Int), .int .u8 (b : Int)] 5)) (w0.heap.size + 1) (some ⟨w0.heap.size, 0, none⟩) [a, b]) := hbb.1
  clear hbb
  obtain ⟨y0, y1, y2, y3, y4, y5⟩ := six_cells HS1.out.1
  go_wp2_with fail
  have sl2 : SlIs (some (⟨w0.heap.size, 0, none⟩ : Addr)) 2 2 := ⟨(fun e => by cases e), Nat.le_refl _, by decide⟩
  refine (refput_row (some ⟨w0.heap.size, 0, none⟩) (w0.heap.size + 1) 2 2 [a, b] c 4 4 rfl _ sl2 rfl (by decide) HB1.out (by decide) (by decide)).mono ?_
  rintro r w3 ⟨A3, n3, c3, p3, rfl, hp3, hn3, hr3⟩
  have h3 : n3 = 6 := hn3.out
  subst h3
  have HS3 := Lib.hid (HS1.out.next hr3.2.2.2.2 (by rfl) (by rfl) (by rfl) (by rfl))
  have HR3 := Lib.hid hr3
  clear hr3 sl2 z0 z1 z2 z3 z4 z5 y0 y1 y2 y3 y4 y5
  obtain ⟨z0, z1, z2, z3, z4, z5⟩ := six_cells HS3.out.1
  go_wp2_with fail
  refine (refput_row A3 w3.heap.size 6 c3 p3 d 6 6 rfl w3 HR3.out.2.2.1 HR3.out.2.1 (by decide) HR3.out.2.2.2.1 (by decide) (by decide)).mono ?_
  rintro r w4 ⟨A4, n4, c4, p4, rfl, hp4, hn4, hr4⟩
  have h4 : n4 = 12 := hn4.out
  subst h4
  have HS4 := Lib.hid (HS3.out.next hr4.2.2.2.2 (by rfl) (by rfl) (by rfl) (by rfl))
  have HR4 := Lib.hid hr4
  clear hr4 z0 z1 z2 z3 z4 z5
  obtain ⟨z0, z1, z2, z3, z4, z5⟩ := six_cells HS4.out.1
  go_wp2_with fail
  refine (refput_row A4 w4.heap.size 12 c4 p4 e 6 6 rfl w4 HR4.out.2.2.1 HR4.out.2.1 (by decide) HR4.out.2.2.2.1 (by decide) (by decide)).mono ?_
  rintro r w5 ⟨A5, n5, c5, p5, rfl, hp5, hn5, hr5⟩
  have h5 : n5 = 18 := hn5.out
  subst h5
  have HS5 := Lib.hid (HS4.out.next hr5.2.2.2.2 (by rfl) (by rfl) (by rfl) (by rfl))
  have HR5 := Lib.hid hr5
  clear hr5 z0 z1 z2 z3 z4 z5
  obtain ⟨z0, z1, z2, z3, z4, z5⟩ := six_cells HS5.out.1
  go_wp2_with fail
  refine (refput_row A5 w5.heap.size 18 c5 p5 f 5 5 rfl w5 HR5.out.2.2.1 HR5.out.2.1 (by decide) HR5.out.2.2.2.1 (by decide) (by decide)).mono ?_
  rintro r w6 ⟨A6, n6, c6, p6, rfl, hp6, hn6, hr6⟩
  have h6 : n6 = 23 := hn6.out
  subst h6
  have HS6 := Lib.hid (HS5.out.next hr6.2.2.2.2 (by rfl) (by rfl) (by rfl) (by rfl))
  have HR6 := Lib.hid hr6
  have HEP : Hid (en = Fr.enc 1 0 (x : Int) p6) := by
    show _ = _
    rw [HEB.out, hp6.out, hp5.out, hp4.out, hp3.out]
  clear hr6 z0 z1 z2 z3 z4 z5 hp6 hp5 hp4 hp3 HEB
  have HE := Lib.hid (reffrenc_any 1 0 x A6 w6.heap.size 23 c6 p6 w6 (by decide) (by decide) hx (Nat.le_refl _) HR6.out.2.2.1 HR6.out.2.1 (by decide) HR6.out.2.2.2.1)
  go_wp2_with fail
  refine HE.out.mono ?_
  rintro r w7 ⟨A7, c7, rfl, hs7, hb7, hbel7⟩
  have HS7 := Lib.hid (HS6.out.next hbel7 (by rfl) (by rfl) (by rfl) (by rfl))
  have HR7 := Lib.hid (And.intro hs7 hb7)
  clear hs7 hb7 hbel7
  go_wp2
  go_ret
  rw [HEP.out]
  exact ⟨A7, c7, rfl, HR7.out.1, HR7.out.2, HS7.out.2⟩
theorem refhdenc_any (a b c d e f x : Int) (w : World) (hv : Hd.valid ⟨a, b, c, d, e, f⟩) (hx : 0 ≤ x ∧ x < 1048576) :
    Calls Tryd.prog 18 #[.agg #[.int .i64 a, .int .i64 b, .int .i64 c, .int .i64 d, .int .i64 e, .int .i64 f], .int .i64 x] w fun r w' => ∃ A3 c3, r = .returned (.slice A3 64 c3) ∧ SlIs A3 64 c3 ∧ Bs w' w'.heap.size A3 (Hd.enc x ⟨a, b, c, d, e, f⟩) ∧ Below w.heap.size w w' := by
  obtain ⟨a', b', c', d', e', f', hh, q0, q1, q2, q3, q4, q5⟩ := hd_nat hv
  obtain ⟨x, rfl⟩ := Int.eq_ofNat_of_zero_le hx.1
  injection hh with h0 h1 h2 h3 h4 h5
  subst h0 h1 h2 h3 h4 h5
  exact refhdenc_nat a' b' c' d' e' f' x w q0 q1 q2 q3 q4 q5 (by omega)
end Go.Proofs.YtjfgnojmdbfnmaaDoor
