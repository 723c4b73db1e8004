/-
  The walk of the law PlanEncode.
-/
import Derived.Test.YtjlakkfbeijnbaaDoorPlRefDec
import Derived.Test.YtjlakkfbeijnbaaDoorPlEq
import Derived.Test.YtjlakkfbeijnbaaDoorPlEncode
set_option maxRecDepth 100000
namespace Go.Proofs.YtjlakkfbeijnbaaDoor
open Go.RowKit
theorem sd_eight {w W : World} {r : Nat} {a b c d e f h j : Value} {t : TypeId} (k : Sd w r (.cells #[a, b, c, d, e, f, h, j] t (0, 0)) W) : W.cell? ⟨r, 0, none⟩ = some a ∧ W.cell? ⟨r, 1, none⟩ = some b ∧ W.cell? ⟨r, 2, none⟩ = some c ∧ W.cell? ⟨r, 3, none⟩ = some d ∧ W.cell? ⟨r, 4, none⟩ = some e ∧ W.cell? ⟨r, 5, none⟩ = some f ∧ W.cell? ⟨r, 6, none⟩ = some h ∧ W.cell? ⟨r, 7, none⟩ = some j := eight_cells k.1
theorem enc_ways (p : Pl.P) (x : Int) : (decide (Pl.valid p) = false ∧ Pl.err p x = 4) ∨ (decide (Pl.valid p) = true ∧ Pl.err p x = 2 ∧ (decide (x < 0) = true ∨ (decide (x < 0) = false ∧ decide (1048576 ≤ x) = true))) ∨ (decide (Pl.valid p) = true ∧ Pl.err p x = 0 ∧ decide (x < 0) = false ∧ decide (1048576 ≤ x) = false ∧ Pl.valid p ∧ 0 ≤ x ∧ x < 1048576) := by
  unfold Pl.err
  by_cases hv : Pl.valid p
  · rw [if_pos hv]
    by_cases h0 : x < 0
    · exact .inr (.inl ⟨decide_eq_true hv, by rw [if_neg (by omega)], .inl (decide_eq_true h0)⟩)
    · by_cases h1 : 1048576 ≤ x
      · exact .inr (.inl ⟨decide_eq_true hv, by rw [if_neg (by omega)], .inr ⟨decide_eq_false h0, decide_eq_true h1⟩⟩)
      · exact .inr (.inr ⟨decide_eq_true hv, by rw [if_pos (by omega)], decide_eq_false h0, decide_eq_false h1, hv, by omega, by omega⟩)
  · exact .inl ⟨decide_eq_false hv, by rw [if_neg hv]⟩
theorem dec_enc (x : Int) (p : Pl.P) (hv : Pl.valid p) (hx : 0 ≤ x ∧ x < 1048576) {w : World} {r : Ending} {w' : World} (h : DecPl w x (Pl.enc x p) r w') : r = .returned (.tuple #[.agg #[.int .i64 p.kind, .int .i64 p.mig, .int .i64 p.idx, .int .i64 p.tail, .int .i64 p.t.id, .int .i64 p.t.ver, .int .i64 p.t.rs, .int .i64 p.t.reg], .bool true]) ∧ Below w.heap.size w w' := by
  have hg : Pl.good x (Pl.enc x p) p := ⟨by unfold Fr.may; omega, hv, rfl⟩
  rcases h with ⟨q, hq, h⟩ | ⟨h, -⟩
  · rw [← Pl.good_rd Pl.rl_reads hg, Pl.good_rd Pl.rl_reads hq]
    exact h
  · exact absurd ⟨p, hg⟩ h
set_option maxHeartbeats 8000000 in
theorem planencode_any (k m i t a b c d x : Int) (w : World) (ht : Hid (TabW w)) (hd : Hid (DbW w)) (hz : 0 < w.heap.size) (hz2 : 2 < w.heap.size) :
    Calls Tryd.prog 3 #[.agg #[.int .i64 k, .int .i64 m, .int .i64 i, .int .i64 t, .int .i64 a, .int .i64 b, .int .i64 c, .int .i64 d], .int .i64 x] w fun r w' => r = .returned (.bool true) ∧ Below w.heap.size w w' := by
  have HTB : Hid (∀ W, Below w.heap.size w W → TabW W ∧ 0 < W.heap.size) := fun W hW => ⟨ht.out.below hW hz, Nat.lt_of_lt_of_le hz hW.size⟩
  have CE : Hid (∀ W, Below w.heap.size w W → Calls Tryd.prog 5 #[.agg #[.int .i64 k, .int .i64 m, .int .i64 i, .int .i64 t, .int .i64 a, .int .i64 b, .int .i64 c, .int .i64 d], .int .i64 x] W (FrEnc W (Pl.enc x ⟨k, m, i, t, ⟨a, b, c, d⟩⟩) (Pl.err ⟨k, m, i, t, ⟨a, b, c, d⟩⟩ x))) := fun W hW =>
    plencode_any k m i t a b c d x W (HTB.out W hW).1 (HTB.out W hW).2 (fun W' hW' => hd.out.below (hW.trans (hW'.mono hW.size)) hz2)
  have CV := Lib.hid (fun W => plvalid_any k m i t a b c d W)
  have CR := Lib.hid (fun W => refplvalid_any k m i t a b c d W)
  have CX : Hid (Pl.valid ⟨k, m, i, t, ⟨a, b, c, d⟩⟩ → 0 ≤ x ∧ x < 1048576 → ∀ W, Calls Tryd.prog 11 #[.agg #[.int .i64 k, .int .i64 m, .int .i64 i, .int .i64 t, .int .i64 a, .int .i64 b, .int .i64 c, .int .i64 d], .int .i64 x] W fun r w' => ∃ A3 c3, r = .returned (.slice A3 64 c3) ∧ SlIs A3 64 c3 ∧ Bs w' w'.heap.size A3 (Pl.enc x ⟨k, m, i, t, ⟨a, b, c, d⟩⟩) ∧ Below W.heap.size W w') := fun hv hx W => refplenc_any k m i t a b c d x W hv hx
  have CD : Hid (Pl.valid ⟨k, m, i, t, ⟨a, b, c, d⟩⟩ → 0 ≤ x ∧ x < 1048576 → ∀ W A3 B3 c3, Below w.heap.size w W → B3 ≤ W.heap.size → SlIs A3 64 c3 → Bs W B3 A3 (Pl.enc x ⟨k, m, i, t, ⟨a, b, c, d⟩⟩) → Calls Tryd.prog 9 #[.slice A3 64 c3, .int .i64 x] W fun r w' => r = .returned (.tuple #[.agg #[.int .i64 k, .int .i64 m, .int .i64 i, .int .i64 t, .int .i64 a, .int .i64 b, .int .i64 c, .int .i64 d], .bool true]) ∧ Below W.heap.size W w') := fun hv hx W A3 B3 c3 hW h0 h1 h2 =>
    (pldecode_any x A3 B3 64 c3 _ W h0 h1 (Pl.enc_length _ _) h2 (HTB.out W hW).1 (HTB.out W hW).2).mono fun r w' h => dec_enc x _ hv hx h
  have HEL := Lib.hid (Pl.enc_length x ⟨k, m, i, t, ⟨a, b, c, d⟩⟩)
  have HLT := Lib.hid (Pl.enc_lt x ⟨k, m, i, t, ⟨a, b, c, d⟩⟩)
  have hw := enc_ways ⟨k, m, i, t, ⟨a, b, c, d⟩⟩ x
  generalize decide (Pl.valid ⟨k, m, i, t, ⟨a, b, c, d⟩⟩) = v at *
  generalize Pl.err ⟨k, m, i, t, ⟨a, b, c, d⟩⟩ x = er at *
  generalize Pl.valid ⟨k, m, i, t, ⟨a, b, c, d⟩⟩ = VV at *
  generalize Pl.enc x ⟨k, m, i, t, ⟨a, b, c, d⟩⟩ = en at *
  unfold FrEnc at CE
  have hvv : (v != v) = false := by cases v <;> rfl
  have hq := fun W : World => plan_eq W k m i t a b c d k m i t a b c d
  simp only [Pl.same_self] at hq
  have HS0 := Lib.hid (sd_new w #[.int .i64 k, .int .i64 m, .int .i64 i, .int .i64 t, .int .i64 a, .int .i64 b, .int .i64 c, .int .i64 d] 25)
  clear ht hd
  go_enter Tryd.func3, Tryd.ntmps3
  go_upto_region 1 with fail
  generalize w.alloc (.cells #[.int .i64 k, .int .i64 m, .int .i64 i, .int .i64 t, .int .i64 a, .int .i64 b, .int .i64 c, .int .i64 d] 25) = w0 at *
  obtain ⟨z0, z1, z2, z3, z4, z5, z6, z7⟩ := eight_cells HS0.out.1
  go_wp2_with fail
  refine (CE.out _ HS0.out.2).mono ?_
  rintro r w1 ⟨A1, n1, c1, rfl, hs1, hy1, hx1, hb1⟩
  have HS1 := Lib.hid (HS0.out.next hb1 (by rfl) (by rfl) (by rfl) (by rfl))
  have HY1 := Lib.hid hy1
  have HX1 := Lib.hid hx1
  have HSL := Lib.hid hs1
  clear hb1 hy1 hx1 hs1 z0 z1 z2 z3 z4 z5 z6 z7
  obtain ⟨z0, z1, z2, z3, z4, z5, z6, z7⟩ := eight_cells HS1.out.1
  go_upto_region 2 with fail
  have HS1d : Hid (Sd w w.heap.size _ w1.drew) := ⟨HS1.out.1, HS1.out.2.drew⟩
  go_region_held3 (fun W => W.cell? ⟨w.heap.size, 0, none⟩ = some (.int .i64 k) ∧ W.cell? ⟨w.heap.size, 1, none⟩ = some (.int .i64 m) ∧ W.cell? ⟨w.heap.size, 2, none⟩ = some (.int .i64 i) ∧ W.cell? ⟨w.heap.size, 3, none⟩ = some (.int .i64 t) ∧ W.cell? ⟨w.heap.size, 4, none⟩ = some (.int .i64 a) ∧ W.cell? ⟨w.heap.size, 5, none⟩ = some (.int .i64 b) ∧ W.cell? ⟨w.heap.size, 6, none⟩ = some (.int .i64 c) ∧ W.cell? ⟨w.heap.size, 7, none⟩ = some (.int .i64 d))
    (first
      | (revert HS3; intro HS3; with_reducible exact sd_eight HS3.out)
      | (revert HS2; intro HS2; with_reducible exact sd_eight HS2.out)
      | (with_reducible exact sd_eight HS1d.out)
      | go_keep)
    (first
      | (go_at_call 7; refine (CR.out _).mono ?_; rintro r w3 ⟨rfl, hb3⟩; have HS3 := Lib.hid (HS2.out.next hb3 (by rfl) (by rfl) (by rfl) (by rfl)); have HL3 := Lib.hid (HL2.out.trans (hb3.mono HL2.out.size)); clear hb3)
      | (go_at_call 6; refine (CV.out _).mono ?_; rintro r w2 ⟨rfl, hb2⟩; have HS2 := Lib.hid (HS1d.out.next hb2 (by rfl) (by rfl) (by rfl) (by rfl)); have HL2 : Hid (Below w1.heap.size w1 w2) := (Below.refl w1.heap.size w1).drew.trans hb2; clear hb2))
  clear z0 z1 z2 z3 z4 z5 z6 z7 HS1d HS2 HL2 HS1
  obtain ⟨z0, z1, z2, z3, z4, z5, z6, z7⟩ := eight_cells HS3.out.1
  go_wp2_with fail
  refine (CR.out _).mono ?_
  rintro r w4 ⟨rfl, hb4⟩
  have HS4 := Lib.hid (HS3.out.next hb4 (by rfl) (by rfl) (by rfl) (by rfl))
  have HL4 := Lib.hid (HL3.out.trans (hb4.mono HL3.out.size))
  clear hb4 z0 z1 z2 z3 z4 z5 z6 z7 HS3 HL3
  obtain ⟨z0, z1, z2, z3, z4, z5, z6, z7⟩ := eight_cells HS4.out.1
  rcases hw with ⟨rfl, rfl⟩ | ⟨rfl, rfl, hw⟩ | ⟨rfl, rfl, g0, g1, hV, hx⟩
  · obtain rfl : n1 = 0 := HX1.out (by decide)
    go_wp2_with fail
    refine (plawake_any _).mono ?_
    rintro r w5 ⟨rfl, hb5⟩
    have HS5 := Lib.hid (HS4.out.next hb5 (by rfl) (by rfl) (by rfl) (by rfl))
    clear hb5
    go_wp2_with fail
    go_ret
    exact ⟨rfl, HS5.out.2⟩
  · obtain rfl : n1 = 0 := HX1.out (by decide)
    rcases hw with g0 | ⟨g0, g1⟩
    all_goals
      go_wp2_with fail
      refine (plawake_any _).mono ?_
      rintro r w5 ⟨rfl, hb5⟩
      have HS5 := Lib.hid (HS4.out.next hb5 (by rfl) (by rfl) (by rfl) (by rfl))
      clear hb5
      go_wp2_with fail
      go_ret
      exact ⟨rfl, HS5.out.2⟩
  · obtain ⟨hn, hown⟩ := HY1.out rfl
    subst hn
    obtain ⟨A1', c1', e1, hbs, -⟩ := own_bytes hown HLT.out
    injection e1 with e1 _ e3
    subst e1 e3
    have HBW : Hid (∀ W, Below w1.heap.size w1 W → Bs W w1.heap.size A1 en) := fun W hW => hbs.below hW (Nat.le_refl _)
    have CDD := Lib.hid (CD.out hV hx w4 A1 w1.heap.size c1 HS4.out.2 HL4.out.size HSL.out (HBW.out w4 HL4.out))
    have CXX := Lib.hid (CX.out hV hx)
    clear hown hbs HY1 HX1 hV CX CD hx
    go_wp2_with fail
    refine CDD.out.mono ?_
    rintro r w5 ⟨rfl, hb5⟩
    have HS5 := Lib.hid (HS4.out.next hb5 (by rfl) (by rfl) (by rfl) (by rfl))
    have HL5 := Lib.hid (HL4.out.trans (hb5.mono HL4.out.size))
    clear hb5 z0 z1 z2 z3 z4 z5 z6 z7 HS4 HL4
    go_upto_region 9 with fail
    have HS6 : Hid (Sd w w.heap.size _ (w5.alloc (.cells #[.int .i64 k, .int .i64 m, .int .i64 i, .int .i64 t, .int .i64 a, .int .i64 b, .int .i64 c, .int .i64 d] 25))) := HS5.out.made _
    have HL6 : Hid (Below w1.heap.size w1 (w5.alloc (.cells #[.int .i64 k, .int .i64 m, .int .i64 i, .int .i64 t, .int .i64 a, .int .i64 b, .int .i64 c, .int .i64 d] 25))) := HL5.out.alloc HL5.out.size _
    have HQ6 : Hid ((w5.alloc (.cells #[.int .i64 k, .int .i64 m, .int .i64 i, .int .i64 t, .int .i64 a, .int .i64 b, .int .i64 c, .int .i64 d] 25)).heap[w5.heap.size]? = some (.cells #[.int .i64 k, .int .i64 m, .int .i64 i, .int .i64 t, .int .i64 a, .int .i64 b, .int .i64 c, .int .i64 d] 25 (0, 0))) := heap_alloc_new _ _
    clear HS5 HL5
    generalize w5.alloc (.cells #[.int .i64 k, .int .i64 m, .int .i64 i, .int .i64 t, .int .i64 a, .int .i64 b, .int .i64 c, .int .i64 d] 25) = w6 at *
    generalize w5.heap.size = gq at *
    go_wp2_with fail
    refine (plawake_any _).mono ?_
    rintro r w7 ⟨rfl, hb7⟩
    have HS7 := Lib.hid (HS6.out.next hb7 (by rfl) (by rfl) (by rfl) (by rfl))
    have HL7 := Lib.hid (HL6.out.trans (hb7.mono HL6.out.size))
    have HQ7 := Lib.hid (box_next HQ6.out hb7 (by rfl))
    clear hb7 HS6 HL6 HQ6
    obtain ⟨z0, z1, z2, z3, z4, z5, z6, z7⟩ := eight_cells HS7.out.1
    go_wp2_with fail
    refine (CXX.out _).mono ?_
    rintro r w8 ⟨A8, c8, rfl, -, hbs8, hb8⟩
    have HS8 := Lib.hid (HS7.out.next hb8 (by rfl) (by rfl) (by rfl) (by rfl))
    have HL8 := Lib.hid (HL7.out.trans (hb8.mono HL7.out.size))
    have HQ8 := Lib.hid (box_next HQ7.out hb8 (by rfl))
    have QE := Lib.hid (refeq_any A1 A8 w1.heap.size w8.heap.size 64 64 c1 c8 en en w8 HEL.out HEL.out (by decide) (by decide) (HBW.out w8 HL8.out) hbs8)
    rw [decide_eq_true rfl] at QE
    clear hb8 hbs8 z0 z1 z2 z3 z4 z5 z6 z7 HS7 HL7 HQ7
    go_wp2_with fail
    refine QE.out.mono ?_
    rintro r w9 ⟨rfl, k9, rfl⟩
    obtain ⟨x0, x1, x2, x3, x4, x5, x6, x7⟩ := eight_cells HS8.out.1
    obtain ⟨y0, y1, y2, y3, y4, y5, y6, y7⟩ := eight_cells HQ8.out
    go_wp2_with fail
    go_ret
    exact ⟨rfl, below_drawn HS8.out.2 k9⟩
end Go.Proofs.YtjlakkfbeijnbaaDoor
