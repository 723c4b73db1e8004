/-
  The walks of superblock.parse's closure and of superblock.takeLayout.
-/
import Derived.Test.YtjfgnojmdbfnmaaDoorSbBits
import Derived.Test.YtjfgnojmdbfnmaaDoorSbWords
import Derived.Test.YtjfgnojmdbfnmaaDoorHdParse0
namespace Go.Proofs.YtjfgnojmdbfnmaaDoor
open Go.RowKit
theorem Ps.far {w W W' : World} {lo g gi r : Nat} {bad : Bool} {l : List Nat} (h : Ps w lo g gi bad l W) (hg : W.grownBy W' (some r)) (hr : gi < r) : Ps w lo g gi bad l W' := by
  have hgi := (Array.getElem?_eq_some_iff.1 h.2.1).1
  refine ⟨h.1.grown hg (fun b e => .inr (by injection e with e; have := h.2.2.2.2; omega)), (hg.block gi hgi (fun e => by injection e with e; omega)).trans h.2.1, h.2.2.1.trans (below_of_grown hg (by have := h.2.2.2; omega) h.2.2.1.size), h.2.2.2⟩
theorem sbnext_any (w0 : World) (lo g gi : Nat) (l l' : List Nat) (ki : Int) (k N : Nat) (hki : ki = (k : Int)) (h1 : 1 ≤ k) (h6 : k ≤ 6) (hk : k ≤ l.length) (hN : Wire.num (l.take k) = N) (hl' : l.drop k = l') (w : World) (h : Hid (Ps w0 lo g gi false l w)) :
    Calls Tryd.prog 71 #[.int .i64 ki, .pointer (some ⟨gi, 0, none⟩)] w fun r w' => r = .returned (.int .i64 (N : Int)) ∧ Ps w0 lo g gi false l' w' ∧ w.grownBy w' (some g) := by
  have hlt := num6 l k h6 h.out.1.bytes
  have HC := Lib.hid (num_ok lo g l ki k hki h1 (by omega) hk w h.out.1)
  unfold GotNum at HC
  rw [hN] at HC hlt
  rw [hl'] at HC
  have hc := h.out.cell
  clear hki h1 h6 hk hN hl'
  go_enter Tryd.func71, Tryd.ntmps71
  go_wp2_with fail
  refine HC.out.mono ?_
  rintro r w1 ⟨rfl, hr1, hg1⟩
  have H1 := Lib.hid (h.out.next hr1 hg1)
  have G1 : Hid (w.grownBy w1 (some g)) := hg1
  clear hr1 hg1
  go_wp2
  go_ret
  exact ⟨rfl, H1.out, G1.out⟩
theorem num1 (l : List Nat) (h : ∀ x ∈ l, x < 256) : Wire.num (l.take 1) < 256 := by
  have h1 := Wire.num_lt (l.take 1) (fun x hx => h x (List.mem_of_mem_take hx))
  have h2 : (256 : Nat) ^ (l.take 1).length ≤ 256 ^ 1 := Nat.pow_le_pow_right (by decide) (by rw [List.length_take]; omega)
  have h3 : (256 : Nat) ^ 1 = 256 := rfl
  omega
/-- A number read, the world as a read leaves it. -/
theorem read_any (w0 : World) (lo g gi : Nat) (l l' : List Nat) (ki : Int) (k N : Nat) (hki : ki = (k : Int)) (h1 : 1 ≤ k) (h6 : k ≤ 6) (hk : k ≤ l.length) (hN : Wire.num (l.take k) = N) (hl' : l.drop k = l') (w : World) (h : Ps w0 lo g gi false l w) :
    Calls Tryd.prog 58 #[.pointer (some ⟨g, 0, none⟩), .int .i64 ki] w fun r w' => r = .returned (.int .u64 (N : Int)) ∧ Ps w0 lo g gi false l' w' ∧ w.grownBy w' (some g) := by
  refine (num_ok lo g l ki k hki h1 (by omega) hk w h.1).mono ?_
  rintro r w' ⟨rfl, hr, hg⟩
  rw [hN]
  rw [hl'] at hr
  exact ⟨rfl, h.next hr hg, hg⟩
theorem grown_past {w w5 w6 : World} {row : Option Nat} {r : Nat} (h : w.grownBy w5 row) (k : w5.grownBy w6 (some r)) (hr : w.heap.size ≤ r) : w.grownBy w6 row :=
  ⟨k.os.trans h.os, k.tape.trans h.tape, k.output.trans h.output, Nat.le_trans h.size k.size, fun b hb hne => (k.block b (Nat.lt_of_lt_of_le hb h.size) (fun e => by injection e with e; omega)).trans (h.block b hb hne)⟩
set_option maxHeartbeats 1000000 in
theorem sbtake_any (w0 : World) (lo g gi : Nat) (l l' : List Nat) (L : Sb.L) (hl : 7 ≤ l.length) (hL : Sb.rl l = L) (hl' : l.drop 7 = l') (w : World) (h : Ps w0 lo g gi false l w) :
    Calls Tryd.prog 72 #[.pointer (some ⟨g, 0, none⟩)] w fun r w' => r = .returned (.agg #[.int .i64 L.id, .int .i64 L.ver, .int .i64 L.rs, .int .i64 L.reg]) ∧ Ps w0 lo g gi false l' w' ∧ w.grownBy w' (some g) := by
  subst hL hl'
  have hby := h.1.bytes
  have L4 : Hid ((l.drop 4).length = l.length - 4) := List.length_drop ..
  have L5 : Hid ((l.drop 5).length = l.length - 5) := List.length_drop ..
  have L6 : Hid ((l.drop 6).length = l.length - 6) := List.length_drop ..
  have D5 : Hid ((l.drop 4).drop 1 = l.drop 5) := List.drop_drop ..
  have D6 : Hid ((l.drop 5).drop 1 = l.drop 6) := List.drop_drop ..
  have D7 : Hid ((l.drop 6).drop 1 = l.drop 7) := List.drop_drop ..
  have hv0 := num6 l 4 (by decide) hby
  have hv1 := num1 (l.drop 4) (fun x hx => hby x (List.mem_of_mem_drop hx))
  have hv2 := num1 (l.drop 5) (fun x hx => hby x (List.mem_of_mem_drop hx))
  have hv3 := num1 (l.drop 6) (fun x hx => hby x (List.mem_of_mem_drop hx))
  have C0 : Hid (∀ W, Ps w0 lo g gi false l W → Calls Tryd.prog 58 #[.pointer (some ⟨g, 0, none⟩), .int .i64 4] W fun r w' => r = .returned (.int .u64 (Wire.num (l.take 4) : Int)) ∧ Ps w0 lo g gi false (l.drop 4) w' ∧ W.grownBy w' (some g)) := fun W hW =>
    read_any w0 lo g gi l _ 4 4 _ rfl (by decide) (by decide) (by omega) rfl rfl W hW
  have C1 : Hid (∀ W, Ps w0 lo g gi false (l.drop 4) W → Calls Tryd.prog 58 #[.pointer (some ⟨g, 0, none⟩), .int .i64 1] W fun r w' => r = .returned (.int .u64 (Wire.num ((l.drop 4).take 1) : Int)) ∧ Ps w0 lo g gi false (l.drop 5) w' ∧ W.grownBy w' (some g)) := fun W hW =>
    read_any w0 lo g gi _ _ 1 1 _ rfl (by decide) (by decide) (by rw [L4.out]; omega) rfl D5.out W hW
  have C2 : Hid (∀ W, Ps w0 lo g gi false (l.drop 5) W → Calls Tryd.prog 58 #[.pointer (some ⟨g, 0, none⟩), .int .i64 1] W fun r w' => r = .returned (.int .u64 (Wire.num ((l.drop 5).take 1) : Int)) ∧ Ps w0 lo g gi false (l.drop 6) w' ∧ W.grownBy w' (some g)) := fun W hW =>
    read_any w0 lo g gi _ _ 1 1 _ rfl (by decide) (by decide) (by rw [L5.out]; omega) rfl D6.out W hW
  have C3 : Hid (∀ W, Ps w0 lo g gi false (l.drop 6) W → Calls Tryd.prog 58 #[.pointer (some ⟨g, 0, none⟩), .int .i64 1] W fun r w' => r = .returned (.int .u64 (Wire.num ((l.drop 6).take 1) : Int)) ∧ Ps w0 lo g gi false (l.drop 7) w' ∧ W.grownBy w' (some g)) := fun W hW =>
    read_any w0 lo g gi _ _ 1 1 _ rfl (by decide) (by decide) (by rw [L6.out]; omega) rfl D7.out W hW
  have CP : Hid (∀ W, Calls Tryd.prog 77 #[.int .u64 (Wire.num ((l.drop 5).take 1) : Int)] W fun e w' => e = .returned (.int .i64 (Sb.p64 (Wire.num ((l.drop 5).take 1)))) ∧ W = w') := fun W => sbpower_any _ hv2 W
  unfold Sb.rl
  simp only
  clear D5 D6 D7 L4 L5 L6 hby
  have HH := Lib.hid h
  clear h
  generalize Wire.num (l.take 4) = n0 at *
  generalize Wire.num ((l.drop 4).take 1) = n1 at *
  generalize Wire.num ((l.drop 5).take 1) = n2 at *
  generalize Wire.num ((l.drop 6).take 1) = n3 at *
  generalize Sb.p64 n2 = n2' at *
  have HS0 := Lib.hid (sd_new w #[.int .i64 0, .int .i64 0, .int .i64 0, .int .i64 0] 41)
  have H0 := Lib.hid (HH.out.alloc (.cells #[.int .i64 0, .int .i64 0, .int .i64 0, .int .i64 0] 41))
  have HG : Hid (gi < w.heap.size ∧ g < gi) := ⟨(Array.getElem?_eq_some_iff.1 HH.out.2.1).1, HH.out.2.2.2.2⟩
  have HB0 : Hid (w.grownBy (w.alloc (.cells #[.int .i64 0, .int .i64 0, .int .i64 0, .int .i64 0] 41)) (some g)) := grown_of_below HS0.out.2 _
  go_enter Tryd.func72, Tryd.ntmps72
  go_upto_region 1 with fail
  generalize w.alloc (.cells #[.int .i64 0, .int .i64 0, .int .i64 0, .int .i64 0] 41) = w1 at *
  go_wp2_with fail
  refine (C0.out _ H0.out).mono ?_
  rintro r w2 ⟨rfl, h2, g2⟩
  have H2 := Lib.hid h2
  have G2 := Lib.hid g2
  clear h2 g2
  go_wp2_with fail
  refine (C1.out _ H2.out).mono ?_
  rintro r w3 ⟨rfl, h3, g3⟩
  have H3 := Lib.hid h3
  have G3 := Lib.hid g3
  clear h3 g3
  go_wp2_with fail
  refine (C2.out _ H3.out).mono ?_
  rintro r w4 ⟨rfl, h4, g4⟩
  have H4 := Lib.hid h4
  have G4 := Lib.hid g4
  clear h4 g4
  go_wp2_with fail
  refine (CP.out _).mono ?_
  rintro r w' ⟨rfl, rfl⟩
  go_wp2_with fail
  refine (C3.out _ H4.out).mono ?_
  rintro r w5 ⟨rfl, h5, g5⟩
  have H5 := Lib.hid h5
  have GA : Hid (w.grownBy w5 (some g)) := grown_trans' HB0.out (grown_trans' G2.out (grown_trans' G3.out (grown_trans' G4.out g5)))
  have GB : Hid (w1.grownBy w5 (some g)) := grown_trans' G2.out (grown_trans' G3.out (grown_trans' G4.out g5))
  clear h5 g5
  have HR5 : Hid (w5.heap[w.heap.size]? = some (.cells #[.int .i64 0, .int .i64 0, .int .i64 0, .int .i64 0] 41 (0, 0))) := (GB.out.block _ (Array.getElem?_eq_some_iff.1 HS0.out.1).1 (fun e => by injection e with e; have := HG.out; omega)).trans HS0.out.1
  obtain ⟨f0, f1, f2, f3⟩ := four_frozen HR5.out
  obtain ⟨y0, y1, y2, y3⟩ := four_cells HR5.out
  go_wp2_with fail
  (try simp only [Exit.inBlock, Exit.then])
  refine bodyPost_ret (results_cell_row rfl _ _ w.heap.size _ _ (0, 0) _ rfl (stored HR5.out) Tryd.underlying41 rfl (by kernel_rfl)) rfl ?_
  exact ⟨rfl, H5.out.far (stored_grown _ _ _ _ _ _) HG.out.1, grown_past GA.out (stored_grown _ _ _ _ _ _) (Nat.le_refl _)⟩
end Go.Proofs.YtjfgnojmdbfnmaaDoor
