/-
  The law PackerFull.
-/
import Derived.Test.YtjmhnbohojdodaaDoorPkState
set_option maxRecDepth 100000
namespace Go.Proofs.YtjmhnbohojdodaaDoor
open Go.RowKit
def boolS : Shape Bool := ⟨fun k => [.bool k], false, 1, fun _ => rfl, by decide, fun a u hu => by
  simp only [List.mem_cons, List.not_mem_nil, or_false] at hu
  subst hu; rfl⟩
theorem bools_at {w : World} {lo B : Nat} {ad : Addr} {l : List Bool} (h : Arr boolS w lo B (some ad) l) (k : Nat) (hk : k < l.length) : w.cell? (ad.add k) = some (.bool (l.getD k false)) := by
  have := h.cell k hk 0 (.bool (l.getD k false)) rfl
  rwa [show k * boolS.m + 0 = k from Nat.mul_one k] at this
theorem and63 (n : Int) : ∃ N : Nat, N ≤ 63 ∧ bits .and .i64 n 63 = (N : Int) := by
  have h1 : (BitVec.ofInt 64 63).toNat = 63 := by decide
  have hle : (BitVec.ofInt 64 n).toNat &&& 63 ≤ 63 := Nat.and_le_right
  refine ⟨(BitVec.ofInt 64 n).toNat &&& 63, hle, ?_⟩
  show IntKind.i64.wrap ((BitVec.ofInt 64 n &&& BitVec.ofInt 64 63).toNat : Int) = _
  rw [BitVec.toNat_and, h1, IntKind.wrap_i64]
  omega
theorem zero_vals (k : Nat) : (madeCells (Value.cells (.int .u8 0)) (k * 1)).toList = vals (List.replicate k 0) := by
  simp only [madeCells, vals, Value.cells, List.map_replicate]
  apply List.ext_getElem
  · simp
  · intro i h1 h2
    simp [Nat.mod_one]
theorem key_bs (w : World) : Bs (w.alloc (.cells #[.int .u8 107, .int .u8 101, .int .u8 121] 5 (3, 4))) (w.alloc (.cells #[.int .u8 107, .int .u8 101, .int .u8 121] 5 (3, 4))).heap.size (some ⟨w.heap.size, 0, none⟩) [107, 101, 121] := fun k hk => by
  have hk3 : k < 3 := hk
  have h := heap_alloc_new w (.cells #[.int .u8 107, .int .u8 101, .int .u8 121] 5 (3, 4))
  obtain rfl | rfl | rfl : k = 0 ∨ k = 1 ∨ k = 2 := by omega
  all_goals
    refine ⟨by decide, _, rfl, by simp, ?_⟩
    rw [arr_flat, cell_of_row _ _ _ _ _ _ h]
    rfl
theorem row_block {w : World} {base g n : Nat} {l : List Nat} (h : w.ownsRow base 5 1 (.slice (some ⟨g, 0, none⟩) n n) n (vals l)) : w.heap[g]? = some (.cells (vals l).toArray 5 (0, 0)) := by
  rcases h.2 with ⟨e, -⟩ | ⟨g', cap, cur, e, -, h3, -, -, h6, h7⟩
  · cases e
  · injection e with e1 e2 e3
    injection e1 with e1
    injection e1 with e1
    subst e1 e3
    rw [h3]
    have : cur.toList = vals l := by
      rw [← h7, List.take_of_length_le]
      rw [Array.length_toList, h6]
      exact Nat.le_refl _
    rw [← this]
/-- Blocks of no thing. -/
def Frees (c : Nat → Nat) (w : World) (L : List (Nat × Obj)) : Prop := ∀ p ∈ L, Free c w p.1 p.2
theorem Frees.none {c : Nat → Nat} {w : World} : Frees c w [] := fun p hp => absurd hp (by simp)
theorem Frees.cons {c : Nat → Nat} {w : World} {b : Nat} {o : Obj} {L : List (Nat × Obj)} (h : Free c w b o) (hL : Frees c w L) : Frees c w ((b, o) :: L) := fun p hp => by
  rcases List.mem_cons.1 hp with rfl | hp
  · exact h
  · exact hL p hp
theorem Frees.new {c : Nat → Nat} {w w' : World} {L : List (Nat × Obj)} (h : Frees c w L) (hb : Below w.heap.size w w') : Frees c w' L := fun p hp => (h p hp).new hb
theorem Frees.other {c : Nat → Nat} {w w' : World} {i : Nat} {L : List (Nat × Obj)} (h : Frees c w L) (hk : Kept (fun b => c b = i) w w') (hi : i ≠ 0) (m : Nat) : Frees (paint c w w' m) w' L := fun p hp => (h p hp).other hk hi m
theorem full_rec {w : World} {kb gm m : Nat} (h1 : w.heap[kb]? = some (.cells #[.int .u8 107, .int .u8 101, .int .u8 121] 5 (3, 4))) (h2 : w.heap[gm]? = some (.cells (vals (List.replicate m 0)).toArray 5 (0, 0))) (hm : m ≤ 63) :
    Hid (RecIn w w.heap.size (some ⟨kb, 0, none⟩) (some ⟨gm, 0, none⟩) 3 3 m m [107, 101, 121] (List.replicate m 0)) := by
  refine ⟨⟨⟨(fun e => by cases e), Nat.le_refl _, by decide⟩, rfl, fun k hk => ?_⟩, ⟨⟨(fun e => by cases e), Nat.le_refl _, ?_⟩, List.length_replicate .., fun k hk => ?_⟩⟩
  · have hk3 : k < 3 := hk
    have hlt := (Array.getElem?_eq_some_iff.1 h1).1
    obtain rfl | rfl | rfl : k = 0 ∨ k = 1 ∨ k = 2 := by omega
    all_goals
      refine ⟨by decide, _, rfl, hlt, ?_⟩
      rw [arr_flat, cell_of_row _ _ _ _ _ _ h1]
      rfl
  · omega
  · have hlt := (Array.getElem?_eq_some_iff.1 h2).1
    have hv := vals_at hk
    refine ⟨?_, _, rfl, hlt, ?_⟩
    · exact getD_lt (fun x hx => by rw [(List.mem_replicate.1 hx).2]; decide) k
    · rw [arr_flat, Nat.zero_add, cell_of_row _ _ _ _ _ _ h2, List.getElem?_toArray]; exact hv
theorem sd_four {w W : World} {r : Nat} {a b c d : Value} {t : TypeId} (h : Sd w r (.cells #[a, b, c, d] t (0, 0)) W) : W.cell? ⟨r, 0, none⟩ = some a ∧ W.cell? ⟨r, 1, none⟩ = some b ∧ W.cell? ⟨r, 2, none⟩ = some c ∧ W.cell? ⟨r, 3, none⟩ = some d := four_cells h.1
/-- The three ways of a law's first test. -/
theorem form_ways (b c : Int) : (Hid (decide (Sb.form ⟨1, b, c, 4⟩) = false)) ∨ (Hid (decide (Sb.form ⟨1, b, c, 4⟩) = true) ∧ ((decide (16 < c) = true) ∨ (decide (16 < c) = false ∧ Sb.form ⟨1, b, c, 4⟩ ∧ c ≤ 16))) := by
  by_cases h : Sb.form ⟨1, b, c, 4⟩
  · refine .inr ⟨decide_eq_true h, ?_⟩
    by_cases h2 : 16 < c
    · exact .inl (decide_eq_true h2)
    · exact .inr ⟨decide_eq_false h2, h, by omega⟩
  · exact .inl (decide_eq_false h)
theorem law_ok {b c slot seq : Int} (h : Sb.form ⟨1, b, c, 4⟩) (h1 : 0 ≤ slot ∧ slot < 4) (h2 : 1 ≤ seq ∧ seq ≤ 281474976710655) : Pk.ok ⟨1, b, c, 4⟩ slot seq := ⟨⟨h, h1.1, h1.2⟩, h2⟩
theorem take_ways (i n : Nat) (l : List Bool) : (n ≤ i ∧ decide ((i : Int) < (n : Int)) = false ∧ decide (i < n) = false) ∨ (i < n ∧ decide ((i : Int) < (n : Int)) = true ∧ ((l.getD i false = false) ∨ (l.getD i false = true))) := by
  by_cases h : i < n
  · refine .inr ⟨h, by simp only [decide_eq_true_eq]; omega, ?_⟩
    cases l.getD i false
    · exact .inl rfl
    · exact .inr rfl
  · exact .inl ⟨by omega, by simp only [decide_eq_false_iff_not]; omega, by simp only [decide_eq_false_iff_not]; omega⟩
theorem full_err {b c : Int} (h : Sb.form ⟨1, b, c, 4⟩) (st : List Nat) (m : Nat) (hm : m ≤ 63) :
    Pk.err ⟨1, b, c, 4⟩ st ⟨1, [107, 101, 121], List.replicate m 0, 0⟩ = if Pk.cap ⟨1, b, c, 4⟩ < st.length + (19 + m) then 8 else 0 := by
  have hb := h.2.1
  simp only at hb
  have h1 : Rc.check b ⟨1, [107, 101, 121], List.replicate m 0, 0⟩ = 0 := by
    unfold Rc.check Rc.chk Rc.well
    simp only [List.length_replicate, List.length_cons, List.length_nil]
    have := Rc.most_le b
    have h0 : (0 : Int) ≤ Rc.most b := by unfold Rc.most; split <;> omega
    rw [if_neg (by omega), if_neg (by simp), if_neg (by omega), if_neg (by omega), if_neg (by omega)]
  have h2 : Rc.len ⟨1, [107, 101, 121], List.replicate m 0, 0⟩ = 19 + m := by
    unfold Rc.len; simp only [List.length_replicate, List.length_cons, List.length_nil]
  unfold Pk.err
  rw [if_neg (Decidable.not_not.2 h1), h2]
set_option maxHeartbeats 4000000 in
theorem packerfull_any (a b c d nn : Int) (A2 : Option Addr) (n2 c2 : Nat) (l2 : List Bool) (w : World) (hl2 : Hid (l2.length = n2)) (hb2 : Hid (Arr boolS w 0 w.heap.size A2 l2)) (ht : Hid (TabW w)) (hz : 0 < w.heap.size) :
    Calls Tryd.prog 5 #[.agg #[.int .i64 a, .int .i64 b, .int .i64 c, .int .i64 d], .int .i64 nn, .slice A2 n2 c2] w fun e w' => e = .returned (.bool true) ∧ Below w.heap.size w w' := by
  obtain ⟨i0, hi0, hz0, hz1, hz2⟩ := info_parts info_u8
  have I0 := Lib.hid (And.intro hi0 (And.intro hz0 (And.intro hz1 hz2))); clear hi0 hz0 hz1 hz2
  have kc := fun (w : World) (C : Array Value) (n c : Nat) => Lib.run_convert_bytes_const (P := Tryd.prog) w 34 5 C n c Tryd.underlying34 Tryd.underlying5
  have HS0 := Lib.hid (sd_new w #[.int .i64 1, .int .i64 b, .int .i64 c, .int .i64 4] 23)
  have CF := Lib.hid (fun W => refsbform_any 1 b c 4 W)
  have HA : Hid (∀ W, Below w.heap.size w W → Calls Tryd.prog 10 #[] W fun e w' => e = .returned (.bool true) ∧ Below W.heap.size W w') := fun W hb => pkawake_any W (Lib.hid (ht.out.below hb hz)) (Nat.lt_of_lt_of_le hz hb.size)
  rcases form_ways b c with hf | ⟨hf, f2 | ⟨f2, hform, hc16⟩⟩
  · rw [hf.out] at CF
    clear hf
    go_enter Tryd.func5, Tryd.ntmps5
    go_upto_region 2 with fail
    generalize w.alloc (.cells #[.int .i64 1, .int .i64 b, .int .i64 c, .int .i64 4] 23) = w0 at *
    obtain ⟨z0, z1, z2, z3⟩ := four_cells HS0.out.1
    go_wp2_with fail
    refine (CF.out _).mono ?_
    rintro r w1 ⟨rfl, hb1⟩
    have HS1 := Lib.hid (HS0.out.next hb1 (by rfl) (by rfl) (by rfl) (by rfl))
    clear hb1
    go_wp2_with fail
    refine (HA.out _ HS1.out.2).mono ?_
    rintro r w2 ⟨rfl, hb2⟩
    have HS2 := Lib.hid (HS1.out.next hb2 (by rfl) (by rfl) (by rfl) (by rfl))
    go_wp2
    go_ret
    exact ⟨rfl, HS2.out.2⟩
  · rw [hf.out] at CF
    clear hf
    go_enter Tryd.func5, Tryd.ntmps5
    go_upto_region 2 with fail
    generalize w.alloc (.cells #[.int .i64 1, .int .i64 b, .int .i64 c, .int .i64 4] 23) = w0 at *
    obtain ⟨z0, z1, z2, z3⟩ := four_cells HS0.out.1
    go_wp2_with fail
    refine (CF.out _).mono ?_
    rintro r w1 ⟨rfl, hb1⟩
    have HS1 := Lib.hid (HS0.out.next hb1 (by rfl) (by rfl) (by rfl) (by rfl))
    clear hb1
    obtain ⟨y0, y1, y2, y3⟩ := four_cells HS1.out.1
    go_wp2_with fail
    refine (HA.out _ HS1.out.2).mono ?_
    rintro r w2 ⟨rfl, hb2⟩
    have HS2 := Lib.hid (HS1.out.next hb2 (by rfl) (by rfl) (by rfl) (by rfl))
    go_wp2
    go_ret
    exact ⟨rfl, HS2.out.2⟩
  · rw [hf.out] at CF
    have hok : Pk.ok ⟨1, b, c, 4⟩ 2 9 := law_ok hform (by decide) (by decide)
    have HN := Lib.hid (fun W => pknew_any 1 b c 4 2 9 W)
    unfold PkNew at HN
    rw [Pk.may_zero hok] at HN
    have HOK := Lib.hid hok
    have HFORM := Lib.hid hform
    have hc2 := (Gm.form_nums hform).1
    simp only at hc2
    obtain ⟨m, hm63, hand⟩ := and63 nn
    clear hf hok hform
    go_enter Tryd.func5, Tryd.ntmps5
    go_upto_region 2 with fail
    generalize w.alloc (.cells #[.int .i64 1, .int .i64 b, .int .i64 c, .int .i64 4] 23) = w0 at *
    obtain ⟨z0, z1, z2, z3⟩ := four_cells HS0.out.1
    go_wp2_with fail
    refine (CF.out _).mono ?_
    rintro r w1 ⟨rfl, hb1⟩
    have HS1 := Lib.hid (HS0.out.next hb1 (by rfl) (by rfl) (by rfl) (by rfl))
    clear hb1 z0 z1 z2 z3
    obtain ⟨z0, z1, z2, z3⟩ := four_cells HS1.out.1
    go_wp2_with fail
    refine (HN.out _).mono ?_
    rintro e w2 ⟨p, rfl, hb2', -, hok⟩
    obtain ⟨g, rfl, hg, hp2⟩ := hok HOK.out
    have HS2 := Lib.hid (HS1.out.next hb2' (by rfl) (by rfl) (by rfl) (by rfl))
    obtain ⟨col, HST⟩ : ∃ col, Hid (StF w 1 b c 4 2 9 w2 col g [] 0 (.slice none 0 0) 0 []) := ⟨paint (fun _ => 0) w1 w2 1, (Col.none w1 w.heap.size).paint HS1.out.2.size hb2'.size 1, HS2.out.2, ⟨HS2.out.1, paint_old (Array.getElem?_eq_some_iff.1 HS1.out.1).1⟩, hp2.first 1, SRow.nil⟩
    have HFIT : Hid (Pk.Fit ⟨1, b, c, 4⟩ 2 9 [] 0) := Pk.Fit.start HOK.out
    clear hb2' hok hp2 hg HN HS1 CF
    have HB2K : Hid (Below w2.heap.size w2 (w2.alloc (.cells #[.int .u8 107, .int .u8 101, .int .u8 121] 5 (3, 4)))) := (Below.refl _ w2).alloc (Nat.le_refl _) _
    have HKEY : Hid (Bs (w2.alloc (.cells #[.int .u8 107, .int .u8 101, .int .u8 121] 5 (3, 4))) (w2.alloc (.cells #[.int .u8 107, .int .u8 101, .int .u8 121] 5 (3, 4))).heap.size (some ⟨w2.heap.size, 0, none⟩) [107, 101, 121]) := key_bs w2
    have B0 : Hid (i0.bytes * m ≤ 281474976710656 ∧ m ≤ maxLen) := by rw [I0.out.2.2.2]; exact ⟨by omega, by unfold maxLen; omega⟩
    go_wp2_with (at_make; refine wpList_make_full (w2.alloc (.cells #[.int .u8 107, .int .u8 101, .int .u8 121] 5 (3, 4))) rfl _ _ 34 rfl (w2.alloc (.cells #[.int .u8 107, .int .u8 101, .int .u8 121] 5 (3, 4))).heap.size 5 i0 (.int .u8 0) 1 Tryd.underlying34 I0.out.1 I0.out.2.1 I0.out.2.2.1 .i64 .i64 _ _ m rfl rfl (by simp) (by simp) B0.out.1 B0.out.2 (Nat.le_refl _) ?_; intro w3 hown3 hg3; rw [zero_vals] at hown3; have hb3 := (Below.refl (w2.alloc (.cells #[.int .u8 107, .int .u8 101, .int .u8 121] 5 (3, 4))).heap.size _).grown hg3 (Nat.le_refl _) (fun k e => by cases e); have HB23 := Lib.hid (HB2K.out.trans (hb3.mono HB2K.out.size)); have HKB := Lib.hid ((hb3.block w2.heap.size (by simp)).trans (heap_alloc_new w2 _)); have HGM := Lib.hid (And.intro (row_block hown3) (show w2.heap.size ≤ (w2.alloc (.cells #[.int .u8 107, .int .u8 101, .int .u8 121] 5 (3, 4))).heap.size from HB2K.out.size)); clear hown3 hg3 hb3 HB2K HKEY; generalize (w2.alloc (.cells #[.int .u8 107, .int .u8 101, .int .u8 121] 5 (3, 4))).heap.size = gm at *)
    have HBR : Hid (Below w3.heap.size w3 (w3.alloc (.cells #[.int .i64 1, .slice (some ⟨w2.heap.size, 0, none⟩) 3 3, .slice (some ⟨gm, 0, none⟩) m m, .int .i64 0] 38))) := (Below.refl _ w3).alloc (Nat.le_refl _) _
    have HST4 := Lib.hid ((HST.out.new HB23.out).new HBR.out)
    have HFS : Hid (Frees col (w3.alloc (.cells #[.int .i64 1, .slice (some ⟨w2.heap.size, 0, none⟩) 3 3, .slice (some ⟨gm, 0, none⟩) m m, .int .i64 0] 38)) [(w3.heap.size, .cells #[.int .i64 1, .slice (some ⟨w2.heap.size, 0, none⟩) 3 3, .slice (some ⟨gm, 0, none⟩) m m, .int .i64 0] 38 (0, 0)), (w2.heap.size, .cells #[.int .u8 107, .int .u8 101, .int .u8 121] 5 (3, 4)), (gm, .cells (vals (List.replicate m 0)).toArray 5 (0, 0))]) :=
      Frees.cons (Free.made (HST.out.new HB23.out).colr _) (Frees.cons (Free.new ⟨HKB.out, HST.out.colr.1 _ (Nat.le_refl _)⟩ HBR.out) (Frees.cons (Free.new ⟨HGM.out.1, HST.out.colr.1 _ HGM.out.2⟩ HBR.out) Frees.none))
    generalize w3.alloc (.cells #[.int .i64 1, .slice (some ⟨w2.heap.size, 0, none⟩) 3 3, .slice (some ⟨gm, 0, none⟩) m m, .int .i64 0] 38) = w4 at *
    generalize w3.heap.size = br at *
    generalize w2.heap.size = kb at *
    clear HST HB23 HBR HKB HGM HS2 z0 z1 z2 z3 kc I0 B0 hand
    have HPUT : Hid (∀ (W : World) (col : Nat → Nat) st k sv n l, StF w 1 b c 4 2 9 W col g st k sv n l → Pk.Fit ⟨1, b, c, 4⟩ 2 9 st k → Frees col W [(br, .cells #[.int .i64 1, .slice (some ⟨kb, 0, none⟩) 3 3, .slice (some ⟨gm, 0, none⟩) m m, .int .i64 0] 38 (0, 0)), (kb, .cells #[.int .u8 107, .int .u8 101, .int .u8 121] 5 (3, 4)), (gm, .cells (vals (List.replicate m 0)).toArray 5 (0, 0))] → Calls Tryd.prog 12 #[.pointer (some ⟨g, 0, none⟩), .agg #[.int .i64 1, .slice (some ⟨kb, 0, none⟩) 3 3, .slice (some ⟨gm, 0, none⟩) m m, .int .i64 0]] W (PkPut 66 W (fun i => col i = 1) g 1 b c 4 2 9 st k ⟨1, [107, 101, 121], List.replicate m 0, 0⟩)) := fun W col st k sv n l h1 h2 h3 =>
      pkput_any 1 0 _ _ _ _ W.heap.size 3 3 m m (Nat.le_refl _) (full_rec (h3 _ (List.mem_cons_of_mem _ (List.mem_cons_self ..))).1 (h3 _ (List.mem_cons_of_mem _ (List.mem_cons_of_mem _ (List.mem_cons_self ..)))).1 hm63) (Lib.hid h1.p) h2 (Lib.hid (h1.tab ht.out hz).1) (h1.tab ht.out hz).2
    have HTAKE : Hid (∀ (W : World) (col : Nat → Nat) st k sv n l, StF w 1 b c 4 2 9 W col g st k sv n l → Pk.Fit ⟨1, b, c, 4⟩ 2 9 st k → Calls Tryd.prog 16 #[.pointer (some ⟨g, 0, none⟩)] W (PkTook 66 W (fun i => col i = 1) g 1 b c 4 2 9 st k)) := fun W col st k sv n l h1 h2 =>
      pktake_any (Lib.hid h1.p) h2 (by have h := h1.colr.2 0; intro e; have := h (by omega); omega) (Lib.hid (h1.tab ht.out hz).1) (h1.tab ht.out hz).2
    have HERR : Hid (∀ st : List Nat, Pk.err ⟨1, b, c, 4⟩ st ⟨1, [107, 101, 121], List.replicate m 0, 0⟩ = if Pk.cap ⟨1, b, c, 4⟩ < st.length + (19 + m) then 8 else 0) := fun st => full_err HFORM.out st m hm63
    have HCAP : Hid (Pk.cap ⟨1, b, c, 4⟩ = ((c - 1) * 59).toNat) := rfl
    have HREL : Hid (∀ st : List Nat, Pk.err ⟨1, b, c, 4⟩ st ⟨1, [107, 101, 121], List.replicate m 0, 0⟩ = 0 → (Pk.put ⟨1, b, c, 4⟩ 9 st ⟨1, [107, 101, 121], List.replicate m 0, 0⟩).length = st.length + (19 + m)) := fun st h => by
      rw [Pk.put_ok h, List.length_append, Rc.enc_length]
      unfold Rc.len
      simp
    have HFP : Hid (∀ (st : List Nat) k, Pk.Fit ⟨1, b, c, 4⟩ 2 9 st k → Pk.Fit ⟨1, b, c, 4⟩ 2 9 (Pk.put ⟨1, b, c, 4⟩ 9 st ⟨1, [107, 101, 121], List.replicate m 0, 0⟩) k) := fun st k h => h.put _ (fun x hx => by simp only [List.mem_cons, List.not_mem_nil, or_false] at hx; omega) (fun x hx => by rw [(List.mem_replicate.1 hx).2]; decide)
    generalize hrec : (⟨1, [107, 101, 121], List.replicate m 0, 0⟩ : Rc.Rec) = rc at *
    have HREC := Lib.hid hrec; clear hrec
    go_loopw [10, 11] (fun sv iv wr => ∃ (i k : Nat) (st : List Nat) (col : Nat → Nat), iv = .int .i64 (i : Int) ∧ 19 * i ≤ st.length ∧ Hid (StF w 1 b c 4 2 9 wr col g st k sv k (intS.flat (Pk.secs ⟨1, b, c, 4⟩ 2 0 k))) ∧ Hid (Pk.Fit ⟨1, b, c, 4⟩ 2 9 st k) ∧ Hid (Frees col wr [(br, .cells #[.int .i64 1, .slice (some ⟨kb, 0, none⟩) 3 3, .slice (some ⟨gm, 0, none⟩) m m, .int .i64 0] 38 (0, 0)), (kb, .cells #[.int .u8 107, .int .u8 101, .int .u8 121] 5 (3, 4)), (gm, .cells (vals (List.replicate m 0)).toArray 5 (0, 0))])) (fun _ i _ => 60 - (Go.RowKit.intOf i).toNat)
    case atStart => exact ⟨0, 0, [], col, rfl, by simp, HST4.out, HFIT.out, HFS.out⟩
    case round =>
      obtain ⟨i, k, st, col, rfl, hi19, HST, HFIT, HFS⟩ := hrel
      have hcap := HFIT.out.le
      rw [HCAP.out] at hcap
      have hi60 : i < 60 := by omega
      obtain ⟨y0, y1, y2, y3⟩ := four_cells (HFS.out _ (List.mem_cons_self ..)).1
      go_wp2_with fail
      refine (HPUT.out wr col st k u10 k _ HST.out HFIT.out HFS.out).mono ?_
      rintro e w5 ⟨rfl, hp5, hk5⟩
      have HB5 : Hid (w5.heap.size = w5.heap.size) := rfl
      have HFS5 := Lib.hid (HFS.out.other hk5 (by decide) 1)
      have HST5 := Lib.hid (HST.out.onP hp5 hk5)
      have HFIT5 := Lib.hid (HFP.out st k HFIT.out)
      clear hp5 hk5 y0 y1 y2 y3
      by_cases herr : Pk.err ⟨1, b, c, 4⟩ st rc = 0
      · have hlen := HREL.out st herr
        have hi20 : 19 * (i + 1) ≤ (Pk.put ⟨1, b, c, 4⟩ 9 st rc).length := by omega
        rw [herr, if_pos rfl, if_pos rfl]
        have HI := Lib.hid hi20
        clear HFS HST HFIT herr hlen hi20 hcap
        generalize Pk.put ⟨1, b, c, 4⟩ 9 st rc = st' at *
        generalize paint col wr w5 1 = col5 at *
        obtain ⟨ad, hA2⟩ : ∃ ad, i < n2 → A2 = some ad := by
          by_cases h : i < n2
          · obtain ⟨ad, e⟩ := hb2.out.some (k := i) (by rw [hl2.out]; exact h)
            exact ⟨ad, fun _ => e⟩
          · exact ⟨⟨0, 0, none⟩, fun h' => absurd h' h⟩
        rcases take_ways i n2 l2 with ⟨f0, f1, f2⟩ | ⟨hin, f1, f2 | f2⟩
        · go_wp2
          go_roundw
          case rel => exact ⟨i + 1, k, st', col5, by go_num, HI.out, HST5.out, HFIT5.out, HFS5.out⟩
          case measure => simp [Go.RowKit.intOf]; omega
        · obtain rfl := hA2 hin
          have c0 := bools_at (hb2.out.below HST5.out.up (Nat.le_refl _)) i (by rw [hl2.out]; exact hin)
          rw [f2] at c0
          clear f2
          go_wp2_with fail
          go_roundw
          case rel => exact ⟨i + 1, k, st', col5, by go_num, HI.out, HST5.out, HFIT5.out, HFS5.out⟩
          case measure => simp [Go.RowKit.intOf]; omega
        · obtain rfl := hA2 hin
          have c0 := bools_at (hb2.out.below HST5.out.up (Nat.le_refl _)) i (by rw [hl2.out]; exact hin)
          rw [f2] at c0
          go_wp2_with fail
          refine (HTAKE.out w5 col5 st' k u10 k _ HST5.out HFIT5.out).mono ?_
          rintro e w6 ⟨v1, v2, rfl, hs6, hf6, hp6, hk6⟩
          have HST6 := Lib.hid (HST5.out.tookP hp6 hk6)
          have HFS6 := Lib.hid (HFS5.out.other hk6 (by decide) 5)
          have HV1 := Lib.hid hs6
          have hkf := HFIT5.out.full
          have hff := Pk.full_le HFIT5.out
          have HSS := Lib.hid (Pk.secs_then ⟨1, b, c, 4⟩ 2 k (Pk.full st' - k))
          have HFIT6 := Lib.hid (HFIT5.out.take (Nat.le_refl _))
          obtain ⟨n, hn⟩ : ∃ n, n = Pk.full st' - k := ⟨_, rfl⟩
          rw [← hn] at HV1 HSS
          have HKN : Hid (k + n = Pk.full st') := by show _ = _; omega
          have hkn : k ≤ 1000000 ∧ k + n ≤ 1000000 ∧ (k + n) * 8 ≤ 140737488355328 := by omega
          clear hs6 hf6 hp6 hk6 HFS5 HST5 HFIT5 c0
          generalize paint col5 w5 w6 5 = col6 at *
          rw [← HKN.out] at HST6 HFIT6
          go_wp2_with (at_builtin; refine BigFrame.wpList_want rfl fun K hK => ?_; refine op_append_all (Sh := intS) (.tmp 83) (.tmp 84) 44 rfl Tryd.underlying44 info_int rfl u10 k (Pk.secs ⟨1, b, c, 4⟩ 2 0 k) rfl HST6.out.s v1 n (Pk.secs ⟨1, b, c, 4⟩ 2 k n) rfl HV1.out hkn.2.1 hkn.2.2 ?_; intro v7 w7 hr7 hk7; refine hK _ _ ?_; have HR7 := Lib.hid hr7; have HK7 := Lib.hid hk7; clear hr7 hk7 hK K)
          rw [HSS.out] at HR7
          have HST7 := Lib.hid (HST6.out.onS HR7.out HK7.out)
          have HFS7 := Lib.hid (HFS6.out.other HK7.out (by decide) 3)
          clear HST6 HFS6 HR7 HK7
          generalize paint col6 w6 w7 3 = col7 at *
          go_wp2
          go_roundw
          case rel => exact ⟨i + 1, k + n, st', col7, by go_num, HI.out, HST7.out, HFIT6.out, HFS7.out⟩
          case measure => simp [Go.RowKit.intOf]; omega
      · have herr2 := HERR.out st
        have h8 : Pk.err ⟨1, b, c, 4⟩ st rc = 8 ∧ Pk.cap ⟨1, b, c, 4⟩ < st.length + (19 + m) := by
          rw [herr2] at herr ⊢
          split
          · next h => exact ⟨rfl, h⟩
          · next h => rw [if_neg h] at herr; exact absurd rfl herr
        rw [Pk.put_no herr] at HST5 HFIT5
        rw [h8.1, if_neg (by decide), if_neg (by decide)]
        have hlt := h8.2
        have hle := HFIT5.out.le
        have h120 := HFIT5.out.short
        have hcapi := (Pk.cap_eq HFORM.out).2.2.1
        have f3 : decide (((16 + 3 + m : Nat) : Int) ≤ (Pk.cap ⟨1, b, c, 4⟩ : Int) - (st.length : Int)) = false := by simp only [decide_eq_false_iff_not]; omega
        have CRM : Hid (∀ W, Below w5.heap.size w5 W → Calls Tryd.prog 23 #[.pointer (some ⟨g, 0, none⟩)] W fun e w' => e = .returned (.int .i64 ((Pk.cap ⟨1, b, c, 4⟩ : Int) - (st.length : Int))) ∧ Below W.heap.size W w') := fun W hb => pkroom_any (Lib.hid (HST5.out.p.new hb)) HFIT5.out
        have CLN : Hid (∀ W, Calls Tryd.prog 28 #[.agg #[.int .i64 1, .slice (some ⟨kb, 0, none⟩) 3 3, .slice (some ⟨gm, 0, none⟩) m m, .int .i64 0]] W fun e w' => e = .returned (.int .i64 ((16 + 3 + m : Nat) : Int)) ∧ Below W.heap.size W w') := fun W => reflen_any 1 _ 3 3 _ m m 0 W (by omega) (by omega)
        generalize 16 + 3 + m = lr at *
        clear herr herr2 h8 hlt HST HFIT HFS hi19 hcap
        generalize (Pk.cap ⟨1, b, c, 4⟩ : Int) - (st.length : Int) = room at *
        generalize paint col wr w5 1 = col5 at *
        obtain ⟨y0, y1, y2, y3⟩ := four_cells (HFS5.out _ (List.mem_cons_self ..)).1
        have HBX := Lib.hid (sd_here (HFS5.out _ (List.mem_cons_self ..)).1)
        go_wp2_with fail
        go_region_held3 (fun W => W.cell? ⟨br, 0, none⟩ = some (.int .i64 1) ∧ W.cell? ⟨br, 1, none⟩ = some (.slice (some ⟨kb, 0, none⟩) 3 3) ∧ W.cell? ⟨br, 2, none⟩ = some (.slice (some ⟨gm, 0, none⟩) m m) ∧ W.cell? ⟨br, 3, none⟩ = some (.int .i64 0))
          (first
            | (revert HB7; intro HB7; with_reducible exact sd_four HB7.out)
            | (revert HB6; intro HB6; with_reducible exact sd_four HB6.out)
            | go_keep)
          (first
            | (go_at_call 23; refine (CRM.out _ (HBX.out.next (Below.refl _ _) (by rfl) (by rfl) (by rfl) (by rfl)).2).mono ?_; rintro e w6 ⟨rfl, hb6⟩; have HB6 := Lib.hid (HBX.out.next hb6 (by rfl) (by rfl) (by rfl) (by rfl)); clear hb6)
            | (go_at_call 28; refine (CLN.out _).mono ?_; rintro e w7 ⟨rfl, hb7⟩; have HB7 := Lib.hid (HB6.out.next hb7 (by rfl) (by rfl) (by rfl) (by rfl)); clear hb7))
        all_goals
          have HST7 := Lib.hid (HST5.out.new HB7.out.2)
          clear HFS5 HST5 HB6 HB7 HBX CRM CLN y0 y1 y2 y3 f3
          go_wp2_with fail
          refine (pkpad_any (Lib.hid HST7.out.p) h120).mono ?_
          rintro e w8 ⟨rfl, hp8, hk8⟩
          have HST8 := Lib.hid (HST7.out.onP hp8 hk8)
          have HFIT8 := Lib.hid HFIT5.out.pad
          have HPM := Lib.hid (Pk.pad_mod st)
          clear hp8 hk8 HST7 HFIT5 h120 hle
          generalize Pk.pad st = s8 at *
          generalize paint col5 w7 w8 1 = col8 at *
          go_wp2_with fail
          refine (HTAKE.out w8 col8 s8 k u10 k _ HST8.out HFIT8.out).mono ?_
          rintro e w9 ⟨v1, v2, rfl, hs9, hf9, hp9, hk9⟩
          have HST9 := Lib.hid (HST8.out.tookP hp9 hk9)
          have HV1 := Lib.hid hs9
          have hkf := HFIT8.out.full
          have hff := Pk.full_le HFIT8.out
          have HSS := Lib.hid (Pk.secs_then ⟨1, b, c, 4⟩ 2 k (Pk.full s8 - k))
          have HFIT9 := Lib.hid (HFIT8.out.take (Nat.le_refl _))
          obtain ⟨n, hn⟩ : ∃ n, n = Pk.full s8 - k := ⟨_, rfl⟩
          rw [← hn] at HV1 HSS
          have HKN : Hid (k + n = Pk.full s8) := by show _ = _; omega
          have hkn : k ≤ 1000000 ∧ k + n ≤ 1000000 ∧ (k + n) * 8 ≤ 140737488355328 := by omega
          have HFD : Hid (Pk.full s8 = s8.length / 59) := rfl
          clear hs9 hf9 hp9 hk9 HST8 HFIT8
          generalize paint col8 w8 w9 5 = col9 at *
          go_wp2_with (at_builtin; refine BigFrame.wpList_want rfl fun K hK => ?_; refine op_append_all (Sh := intS) (.tmp 93) (.tmp 94) 44 rfl Tryd.underlying44 info_int rfl u10 k (Pk.secs ⟨1, b, c, 4⟩ 2 0 k) rfl HST9.out.s v1 n (Pk.secs ⟨1, b, c, 4⟩ 2 k n) rfl HV1.out hkn.2.1 hkn.2.2 ?_; intro v7 w10 hr7 hk7; refine hK _ _ ?_; have HR7 := Lib.hid hr7; have HK7 := Lib.hid hk7; clear hr7 hk7 hK K)
          rw [HSS.out] at HR7
          have HST10 := Lib.hid (HST9.out.onS HR7.out HK7.out)
          clear HST9 HR7 HK7
          generalize paint col9 w9 w10 3 = col10 at *
          rw [HKN.out] at HST10
          have hln := HFIT9.out.le
          rw [HCAP.out] at hln
          have h120 := HFIT9.out.short
          have hpm := HPM.out
          have hfd := HFD.out
          obtain ⟨N, hN⟩ : ∃ N, N = Pk.full s8 := ⟨_, rfl⟩
          rw [← hN] at HST10 hfd
          have hlen : s8.length = N * 59 := by omega
          have hN1 : (N : Int) ≤ c - 1 := by omega
          have hN2 : N ≤ 15 := by omega
          have g1 : decide (((Pk.cap ⟨1, b, c, 4⟩ : Int) - (s8.length : Int)) < 0) = false := by simp only [decide_eq_false_iff_not]; have := HFIT9.out.le; omega
          have CRO := Lib.hid (pkroom_any (Lib.hid HST10.out.p) (show Pk.Fit ⟨1, b, c, 4⟩ 2 9 s8 N by rw [hN]; exact HFIT9.out))
          have COF := Lib.hid (pkoff_any (Lib.hid HST10.out.p))
          have HSR : Hid (∀ i : Nat, i < N → (Pk.secs ⟨1, b, c, 4⟩ 2 0 N).getD i 0 = 74 + 2 * c + 1 + (i : Int)) := fun i hi => by
            unfold Pk.secs
            rw [List.getD_eq_getElem?_getD, List.getElem?_map, List.getElem?_range' hi]
            simp only [Option.map_some, Option.getD_some, Nat.zero_add, Nat.one_mul]
            rfl
          have HSL := Lib.hid (Pk.secs_length ⟨1, b, c, 4⟩ 2 0 N)
          have HTA : Hid (∀ W, Below w10.heap.size w10 W → Calls Tryd.prog 16 #[.pointer (some ⟨g, 0, none⟩)] W (PkTook 66 W (fun i => col10 i = 1) g 1 b c 4 2 9 s8 N)) := fun W hb => by
            have h := HTAKE.out W col10 s8 N v7 N _ (HST10.out.new hb) (by rw [hN]; exact HFIT9.out)
            exact h
          have HNN : Hid (Pk.full s8 - N = 0) := by show _ = _; omega
          have g2 : (((s8.length : Nat) : Int) != ((N : Nat) : Int) * 59) = false := by simp only [bne_eq_false_iff_eq]; omega
          have g3 : decide (c - 1 < (N : Int)) = false := by simp only [decide_eq_false_iff_not]; omega
          have g4 : wrap64 ((N : Int) * 59) = (N : Int) * 59 := by unfold wrap64; omega
          have g5 : wrap64 (c - 1) = c - 1 := by unfold wrap64; omega
          have g6 : wrap64 (2 * c) = 2 * c := by unfold wrap64; omega
          have g7 : wrap64 (74 + 2 * c) = 74 + 2 * c := by unfold wrap64; omega
          have g8 : wrap64 (74 + 2 * c + 1) = 74 + 2 * c + 1 := by unfold wrap64; omega
          obtain ⟨A7, c7, e7, hs7⟩ := HST10.out.s.open_
          subst e7
          have HARR := Lib.hid (ARow.open_ (S := intS) (show ARow intS 3 w10 0 _ N _ from HST10.out.s.1))
          obtain ⟨x0, x1, x2, x3⟩ := four_cells HST10.out.box.1
          clear HFIT9 HPM HFD HCAP hkf hff hkn HSS HV1 HKN hln h120 hpm hfd hlen hN hn
          generalize (Pk.cap ⟨1, b, c, 4⟩ : Int) - (s8.length : Int) = room at *
          generalize hq8 : s8.length = q8 at *
          have HQ8 := Lib.hid hq8; clear hq8
          go_wp2_with fail
          refine CRO.out.mono ?_
          rintro e w11 ⟨rfl, hb11⟩
          have HST11 := Lib.hid (HST10.out.new hb11)
          have HB11 := Lib.hid hb11
          have COF11 := Lib.hid (pkoff_any (Lib.hid HST11.out.p))
          rw [HQ8.out] at COF11
          clear hb11 x0 x1 x2 x3 CRO COF
          obtain ⟨x0, x1, x2, x3⟩ := four_cells HST11.out.box.1
          go_wp2_with fail
          refine COF11.out.mono ?_
          rintro e w12 ⟨rfl, rfl⟩
          go_wp2_with fail
          clear x0 x1 x2 x3
          go_loopw [19, 117] (fun _ iv wr => ∃ k q : Nat, k ≤ N ∧ iv = .int .i64 k ∧ wr = w11.drewN q) (fun _ i _ => N - (Go.RowKit.intOf i).toNat)
          case atStart => exact ⟨0, 0, Nat.zero_le _, rfl, rfl⟩
          case round =>
            obtain ⟨r, q, hr, rfl, rfl⟩ := hrel
            by_cases hrN : r < N
            · obtain ⟨x0, x1, x2, x3⟩ := four_cells HST11.out.box.1
              obtain ⟨A8, c8, e8, -, harr⟩ := HARR.out
              injection e8 with e1 _ e3
              subst e1 e3
              obtain ⟨ad, rfl⟩ := harr.some (k := r) (by rw [HSL.out]; exact hrN)
              have hcell : w11.cell? (ad.add r) = some (.int .i64 (74 + 2 * c + 1 + (r : Int))) := by
                have h1 := ints_at harr r (by rw [HSL.out]; exact hrN)
                rw [HSR.out r hrN] at h1
                exact (HB11.out.cell (World.block_lt_of_cell? _ _ h1)).trans h1
              have g9 : wrap64 (74 + 2 * c + 1 + (r : Int)) = 74 + 2 * c + 1 + (r : Int) := by unfold wrap64; omega
              have g10 : ((74 + 2 * c + 1 + (r : Int)) != (74 + 2 * c + 1 + (r : Int))) = false := by simp
              clear harr
              go_wp2_with fail
              go_region
              all_goals
                go_wp2
                go_roundw
                case rel => exact ⟨r + 1, _, by omega, by go_num, rfl⟩
                case measure => simp [Go.RowKit.intOf]; omega
            · obtain rfl : r = N := by omega
              have HST12 := Lib.hid (HST11.out.new (below_drewN w11 q))
              go_wp2_with fail
              refine (HTA.out _ (HB11.out.trans ((below_drewN w11 q).mono HB11.out.size))).mono ?_
              rintro e w13 ⟨v5, v6, rfl, hs13, hf13, hp13, hk13⟩
              rw [HNN.out] at hs13
              obtain ⟨A9, c9, rfl, -⟩ := hs13.open_
              have HBZ := Lib.hid (below_kept HST12.out.up HST12.out.colr hk13 (by decide))
              clear hs13 hf13 hp13 hk13
              go_wp2_with fail
              refine (HA.out _ HBZ.out).mono ?_
              rintro e w14 ⟨rfl, hb14⟩
              have HBY := Lib.hid (HBZ.out.trans (hb14.mono HBZ.out.size))
              go_wp2
              go_ret
              exact ⟨rfl, HBY.out⟩
end Go.Proofs.YtjmhnbohojdodaaDoor
