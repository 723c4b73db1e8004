/-
  The walk of the statement on headers of other sectors, and other headers.
-/
import Derived.Test.YtjfgnojmdbfnmaaDoorHdLaws
import Derived.Deep.RegionHeld3
namespace Go.Proofs.YtjfgnojmdbfnmaaDoor
open Go.RowKit
theorem fourteen_cells {w : World} {g : Nat} {v0 v1 v2 v3 v4 v5 v6 v7 v8 v9 v10 v11 v12 v13 : Value} {t : TypeId} (h : w.heap[g]? = some (.cells #[v0, v1, v2, v3, v4, v5, v6, v7, v8, v9, v10, v11, v12, v13] t (0, 0))) :
    (w.cell? ⟨g, 0, none⟩ = some v0 ∧ w.cell? ⟨g, 1, none⟩ = some v1 ∧ w.cell? ⟨g, 2, none⟩ = some v2 ∧ w.cell? ⟨g, 3, none⟩ = some v3 ∧ w.cell? ⟨g, 4, none⟩ = some v4 ∧ w.cell? ⟨g, 5, none⟩ = some v5) ∧ (w.cell? ⟨g, 6, none⟩ = some v6 ∧ w.cell? ⟨g, 7, none⟩ = some v7 ∧ w.cell? ⟨g, 8, none⟩ = some v8 ∧ w.cell? ⟨g, 9, none⟩ = some v9 ∧ w.cell? ⟨g, 10, none⟩ = some v10 ∧ w.cell? ⟨g, 11, none⟩ = some v11) ∧ w.cell? ⟨g, 12, none⟩ = some v12 ∧ w.cell? ⟨g, 13, none⟩ = some v13 := by
  refine ⟨⟨?_, ?_, ?_, ?_, ?_, ?_⟩, ⟨?_, ?_, ?_, ?_, ?_, ?_⟩, ?_, ?_⟩
  · rw [cell_of_row w g 0 _ t (0, 0) h]; rfl
  · rw [cell_of_row w g 1 _ t (0, 0) h]; rfl
  · rw [cell_of_row w g 2 _ t (0, 0) h]; rfl
  · rw [cell_of_row w g 3 _ t (0, 0) h]; rfl
  · rw [cell_of_row w g 4 _ t (0, 0) h]; rfl
  · rw [cell_of_row w g 5 _ t (0, 0) h]; rfl
  · rw [cell_of_row w g 6 _ t (0, 0) h]; rfl
  · rw [cell_of_row w g 7 _ t (0, 0) h]; rfl
  · rw [cell_of_row w g 8 _ t (0, 0) h]; rfl
  · rw [cell_of_row w g 9 _ t (0, 0) h]; rfl
  · rw [cell_of_row w g 10 _ t (0, 0) h]; rfl
  · rw [cell_of_row w g 11 _ t (0, 0) h]; rfl
  · rw [cell_of_row w g 12 _ t (0, 0) h]; rfl
  · rw [cell_of_row w g 13 _ t (0, 0) h]; rfl
/-- Two variables of the law, and all that was there before. -/
def TwoAt (w : World) (oA oB : Obj) (ga gb : Nat) (W : World) : Prop := W.heap[ga]? = some oA ∧ W.heap[gb]? = some oB ∧ Below w.heap.size w W
theorem TwoAt.next {w W W' W'' : World} {oA oB : Obj} {ga gb : Nat} (h : TwoAt w oA oB ga gb W) (k : Below W'.heap.size W' W'') (e1 : W'.heap = W.heap) (e2 : W'.os = W.os) (e3 : W'.tape = W.tape) (e4 : W'.output = W.output) : TwoAt w oA oB ga gb W'' := by
  have a : Sd w ga oA W'' := Sd.next ⟨h.1, h.2.2⟩ k e1 e2 e3 e4
  have b : Sd w gb oB W'' := Sd.next ⟨h.2.1, h.2.2⟩ k e1 e2 e3 e4
  exact ⟨a.1, b.1, a.2⟩
theorem two_made {w w0 : World} (csA csB : Array Value) (t t' : TypeId) (hB : Below w.heap.size w w0) :
    TwoAt w (.cells csA t (0, 0)) (.cells csB t' (0, 0)) w0.heap.size (w0.heap.size + 1) ((w0.alloc (.cells csA t)).alloc (.cells csB t')) ∧ TwoAt w (.cells csA t (0, 0)) (.cells csB t' (0, 0)) (w0.heap.size + 1) w0.heap.size ((w0.alloc (.cells csB t')).alloc (.cells csA t)) := by
  have k1 := hB.alloc hB.size (.cells csA t)
  have k2 := hB.alloc hB.size (.cells csB t')
  exact ⟨⟨(heap_alloc_old _ _ (by simp)).trans (heap_alloc_new w0 _), alloc_at (by simp), k1.alloc k1.size _⟩, ⟨alloc_at (by simp), (heap_alloc_old _ _ (by simp)).trans (heap_alloc_new w0 _), k2.alloc k2.size _⟩⟩
theorem TwoAt.drew {w W : World} {oA oB : Obj} {ga gb : Nat} (h : TwoAt w oA oB ga gb W) : TwoAt w oA oB ga gb W.drew := ⟨h.1, h.2.1, h.2.2.drew⟩
theorem err_zero7 {h : Hd.H} {x : Int} (e : Hd.err h x = 0) : Hd.valid h ∧ Fr.may 1 0 x := by
  unfold Hd.err at e
  by_cases hv : Hd.valid h
  · rw [if_pos hv] at e
    by_cases hx : 0 ≤ x ∧ x < 1048576
    · exact ⟨hv, by unfold Fr.may; omega⟩
    · rw [if_neg hx] at e; cases e
  · rw [if_neg hv] at e; cases e
set_option maxHeartbeats 4000000 in
set_option maxRecDepth 100000 in
theorem headerother_any (a b c d e f a' b' c' d' e' f' s t : Int) (w : World) (ht : Hid (TabW w)) (hz : 0 < w.heap.size) :
    Calls Tryd.prog 7 #[.agg #[.int .i64 a, .int .i64 b, .int .i64 c, .int .i64 d, .int .i64 e, .int .i64 f, .int .i64 a', .int .i64 b', .int .i64 c', .int .i64 d', .int .i64 e', .int .i64 f', .int .i64 s, .int .i64 t]] w fun r w' => r = .returned (.bool true) ∧ Below w.heap.size w w' := by
  have HAW : Hid (∀ W, Below w.heap.size w W → Calls Tryd.prog 12 #[] W fun e w' => e = .returned (.bool true) ∧ Below W.heap.size W w') := fun W hW => hdawake_any W (ht.out.below hW hz) (Nat.lt_of_lt_of_le hz hW.size)
  have HEA : Hid (∀ W, Below w.heap.size w W → Calls Tryd.prog 15 #[.agg #[.int .i64 a, .int .i64 b, .int .i64 c, .int .i64 d, .int .i64 e, .int .i64 f], .int .i64 s] W (FrEnc W (Hd.enc s ⟨a, b, c, d, e, f⟩) (Hd.err ⟨a, b, c, d, e, f⟩ s))) := fun W hW =>
    hdencode_any a b c d e f s W (ht.out.below hW hz) (Nat.lt_of_lt_of_le hz hW.size)
  have HEB : Hid (∀ W, Below w.heap.size w W → Calls Tryd.prog 15 #[.agg #[.int .i64 a', .int .i64 b', .int .i64 c', .int .i64 d', .int .i64 e', .int .i64 f'], .int .i64 s] W (FrEnc W (Hd.enc s ⟨a', b', c', d', e', f'⟩) (Hd.err ⟨a', b', c', d', e', f'⟩ s))) := fun W hW =>
    hdencode_any a' b' c' d' e' f' s W (ht.out.below hW hz) (Nat.lt_of_lt_of_le hz hW.size)
  have HLA : Hid ((∀ y ∈ Hd.enc s ⟨a, b, c, d, e, f⟩, y < 256) ∧ (Hd.enc s ⟨a, b, c, d, e, f⟩).length = 64) := ⟨Hd.enc_lt _ _, Hd.enc_length _ _⟩
  have HLB : Hid ((∀ y ∈ Hd.enc s ⟨a', b', c', d', e', f'⟩, y < 256) ∧ (Hd.enc s ⟨a', b', c', d', e', f'⟩).length = 64) := ⟨Hd.enc_lt _ _, Hd.enc_length _ _⟩
  have HDE : Hid (Hd.err ⟨a, b, c, d, e, f⟩ s = 0 → ∀ W A k, Below w.heap.size w W → SlIs A 64 k → Bs W W.heap.size A (Hd.enc s ⟨a, b, c, d, e, f⟩) → Calls Tryd.prog 16 #[.slice A 64 k, .int .i64 t] W fun r w' => ∃ h0 h1 h2 h3 h4 h5 : Int, r = .returned (.tuple #[.agg #[.int .i64 h0, .int .i64 h1, .int .i64 h2, .int .i64 h3, .int .i64 h4, .int .i64 h5], .bool (decide (s = t))]) ∧ Below W.heap.size W w') := fun h0 W A k hW h1 h2 => by
    obtain ⟨hv, hm⟩ := err_zero7 h0
    refine (hddecode_any t A W.heap.size 64 k _ W (Nat.le_refl _) h1 HLA.out.2 h2 (ht.out.below hW hz) (Nat.lt_of_lt_of_le hz hW.size)).mono fun r w' h => ?_
    have hg := Hd.good_enc s t _ hv hm
    rcases h with ⟨h, hr, hb⟩ | ⟨h, hr, hb⟩
    · rw [decide_eq_true (hg.1 h).symm]
      exact ⟨_, _, _, _, _, _, hr, hb⟩
    · rw [decide_eq_false (fun e => h (hg.2 e.symm))]
      exact ⟨_, _, _, _, _, _, hr, hb⟩
  have HSM : Hid (Hd.err ⟨a, b, c, d, e, f⟩ s = 0 → Hd.err ⟨a', b', c', d', e', f'⟩ s = 0 → decide (Hd.enc s ⟨a, b, c, d, e, f⟩ = Hd.enc s ⟨a', b', c', d', e', f'⟩) = Hd.same ⟨a, b, c, d, e, f⟩ ⟨a', b', c', d', e', f'⟩) := fun h1 h2 => by
    have h3 := (Hd.apart s _ _ (err_zero7 h1).1 (err_zero7 h2).1).trans (Hd.same_iff _ _).symm
    cases hs : Hd.same ⟨a, b, c, d, e, f⟩ ⟨a', b', c', d', e', f'⟩ with
    | true => exact decide_eq_true (h3.2 hs)
    | false => exact decide_eq_false (fun e => by rw [h3.1 e] at hs; cases hs)
  have hq := fun W : World => hdr_eq' W a b c d e f a' b' c' d' e' f'
  unfold FrEnc at HEA HEB
  generalize Hd.same ⟨a, b, c, d, e, f⟩ ⟨a', b', c', d', e', f'⟩ = sm at *
  generalize Hd.enc s ⟨a, b, c, d, e, f⟩ = en at *
  generalize Hd.enc s ⟨a', b', c', d', e', f'⟩ = en' at *
  generalize Hd.err ⟨a, b, c, d, e, f⟩ s = er at *
  generalize Hd.err ⟨a', b', c', d', e', f'⟩ s = er' at *
  have HS0 : Hid ((w.alloc (.cells #[.int .i64 a, .int .i64 b, .int .i64 c, .int .i64 d, .int .i64 e, .int .i64 f, .int .i64 a', .int .i64 b', .int .i64 c', .int .i64 d', .int .i64 e', .int .i64 f', .int .i64 s, .int .i64 t] 38)).heap[w.heap.size]? = some (.cells #[.int .i64 a, .int .i64 b, .int .i64 c, .int .i64 d, .int .i64 e, .int .i64 f, .int .i64 a', .int .i64 b', .int .i64 c', .int .i64 d', .int .i64 e', .int .i64 f', .int .i64 s, .int .i64 t] 38 (0, 0))) := heap_alloc_new _ _
  have HB0 : Hid (Below w.heap.size w (w.alloc (.cells #[.int .i64 a, .int .i64 b, .int .i64 c, .int .i64 d, .int .i64 e, .int .i64 f, .int .i64 a', .int .i64 b', .int .i64 c', .int .i64 d', .int .i64 e', .int .i64 f', .int .i64 s, .int .i64 t] 38))) := (Below.refl _ w).alloc (Nat.le_refl _) _
  go_enter Tryd.func7, Tryd.ntmps7
  go_upto_region 1 with fail
  generalize w.alloc (.cells #[.int .i64 a, .int .i64 b, .int .i64 c, .int .i64 d, .int .i64 e, .int .i64 f, .int .i64 a', .int .i64 b', .int .i64 c', .int .i64 d', .int .i64 e', .int .i64 f', .int .i64 s, .int .i64 t] 38) = w0 at *
  go_cut [3, 4, 5, 6] (fun s3 s4 s5 s6 wx => ∃ ga gb, s3 = .pointer (some ⟨ga, 0, none⟩) ∧ s4 = .pointer (some ⟨gb, 0, none⟩) ∧ s5 = .int .i64 s ∧ s6 = .int .i64 t ∧ Hid (TwoAt w (.cells #[.int .i64 a, .int .i64 b, .int .i64 c, .int .i64 d, .int .i64 e, .int .i64 f] 23 (0, 0)) (.cells #[.int .i64 a', .int .i64 b', .int .i64 c', .int .i64 d', .int .i64 e', .int .i64 f'] 23 (0, 0)) ga gb wx))
  case first =>
    obtain ⟨⟨c0, c1, c2, c3, c4, c5⟩, ⟨c6, c7, c8, c9, c10, c11⟩, c12, c13⟩ := fourteen_cells HS0.out
    have hlt : w.heap.size < w0.heap.size := (Array.getElem?_eq_some_iff.1 HS0.out).1
    have n1 : w0.heap.size ≠ w.heap.size := by omega
    have n2 : w0.heap.size + 1 ≠ w.heap.size := by omega
    clear hlt
    go_region_held3 (fun W => W.cell? ⟨w.heap.size, 0, none⟩ = some (.int .i64 a) ∧ W.cell? ⟨w.heap.size, 1, none⟩ = some (.int .i64 b) ∧ W.cell? ⟨w.heap.size, 2, none⟩ = some (.int .i64 c) ∧ W.cell? ⟨w.heap.size, 3, none⟩ = some (.int .i64 d) ∧ W.cell? ⟨w.heap.size, 4, none⟩ = some (.int .i64 e) ∧ W.cell? ⟨w.heap.size, 5, none⟩ = some (.int .i64 f) ∧ W.cell? ⟨w.heap.size, 6, none⟩ = some (.int .i64 a') ∧ W.cell? ⟨w.heap.size, 7, none⟩ = some (.int .i64 b') ∧ W.cell? ⟨w.heap.size, 8, none⟩ = some (.int .i64 c') ∧ W.cell? ⟨w.heap.size, 9, none⟩ = some (.int .i64 d') ∧ W.cell? ⟨w.heap.size, 10, none⟩ = some (.int .i64 e') ∧ W.cell? ⟨w.heap.size, 11, none⟩ = some (.int .i64 f') ∧ W.cell? ⟨w.heap.size, 12, none⟩ = some (.int .i64 s) ∧ W.cell? ⟨w.heap.size, 13, none⟩ = some (.int .i64 t))
      (first
        | go_keep)
      (first
        | fail)
    all_goals
      go_wp2_with fail
      go_meet
      first
        | exact ⟨_, _, rfl, rfl, rfl, rfl, (two_made _ _ _ _ HB0.out).1.drew⟩
        | exact ⟨_, _, rfl, rfl, rfl, rfl, (two_made _ _ _ _ HB0.out).2.drew⟩
  case rest =>
    obtain ⟨ga, gb, rfl, rfl, rfl, rfl, HT1⟩ := hcut
    clear HS0 HB0
    generalize wc = w1 at *
    obtain ⟨y0, y1, y2, y3, y4, y5⟩ := six_cells HT1.out.1
    go_wp2_with fail
    refine (HEA.out _ HT1.out.2.2).mono ?_
    rintro r w2 ⟨A2, n2, c2, rfl, hs2, hy2, hx2, hb2⟩
    have HT2 := Lib.hid (HT1.out.next hb2 (by rfl) (by rfl) (by rfl) (by rfl))
    have HY2 := Lib.hid (And.intro hs2 hy2)
    clear hs2 hy2 hx2 hb2 y0 y1 y2 y3 y4 y5
    obtain ⟨z0, z1, z2, z3, z4, z5⟩ := six_cells HT2.out.2.1
    go_wp2_with fail
    refine (HEB.out _ HT2.out.2.2).mono ?_
    rintro r w3 ⟨A3, n3, c3, rfl, hs3, hy3, hx3, hb3⟩
    have HT3 := Lib.hid (HT2.out.next hb3 (by rfl) (by rfl) (by rfl) (by rfl))
    have HY3 := Lib.hid (And.intro hs3 hy3)
    have HB23 := Lib.hid hb3
    clear hs3 hy3 hx3 hb3 z0 z1 z2 z3 z4 z5
    by_cases h1 : er = 0
    · by_cases h2 : er' = 0
      · have HSN := Lib.hid (HSM.out h1 h2)
        have HDN := Lib.hid (HDE.out h1)
        obtain ⟨rfl, hown2⟩ := HY2.out.2 h1
        obtain ⟨rfl, hown3⟩ := HY3.out.2 h2
        subst h1 h2
        obtain ⟨A2', c2', e2', hbs2, -, -, -, -⟩ := own_bytes hown2 HLA.out.1
        injection e2' with e2' _ e3'
        subst e2' e3'
        obtain ⟨A3', c3', e3', hbs3, -, -, -, -⟩ := own_bytes hown3 HLB.out.1
        injection e3' with e3' _ e4'
        subst e3' e4'
        have HBA : Hid (SlIs A2 64 c2 ∧ Bs w3 w2.heap.size A2 en ∧ w2.heap.size ≤ w3.heap.size) := ⟨HY2.out.1, hbs2.below HB23.out (Nat.le_refl _), HB23.out.size⟩
        have HBB : Hid (Bs w3 w3.heap.size A3 en') := hbs3
        clear hown2 hown3 hbs2 hbs3 HY2 HY3 HSM HDE HEA HEB
        go_wp2_with fail
        refine (HDN.out w3 A2 c2 HT3.out.2.2 HBA.out.1 (bs_own HBA.out.2.1)).mono ?_
        rintro r w4 ⟨h0, h1, h2, h3, h4, h5, rfl, hb4⟩
        have HT4 := Lib.hid (HT3.out.next hb4 (by rfl) (by rfl) (by rfl) (by rfl))
        have HT5 : Hid (TwoAt w (.cells #[.int .i64 a, .int .i64 b, .int .i64 c, .int .i64 d, .int .i64 e, .int .i64 f] 23 (0, 0)) (.cells #[.int .i64 a', .int .i64 b', .int .i64 c', .int .i64 d', .int .i64 e', .int .i64 f'] 23 (0, 0)) ga gb (w4.alloc (.cells #[.int .i64 h0, .int .i64 h1, .int .i64 h2, .int .i64 h3, .int .i64 h4, .int .i64 h5] 23))) := HT4.out.next ((Below.refl _ w4).alloc (Nat.le_refl _) _) (by rfl) (by rfl) (by rfl) (by rfl)
        have HX5 : Hid (Below w3.heap.size w3 (w4.alloc (.cells #[.int .i64 h0, .int .i64 h1, .int .i64 h2, .int .i64 h3, .int .i64 h4, .int .i64 h5] 23))) := hb4.alloc hb4.size _
        clear hb4
        go_upto_region 7 with fail
        generalize w4.alloc (.cells #[.int .i64 h0, .int .i64 h1, .int .i64 h2, .int .i64 h3, .int .i64 h4, .int .i64 h5] 23) = w5 at *
        have HRE : Hid (∀ W, Below w5.heap.size w5 W → Calls Tryd.prog 17 #[.slice A2 64 c2, .slice A3 64 c3] W (SaysQuiet sm W)) := fun W hW => by
          have h := refeq_any A2 A3 w2.heap.size w3.heap.size 64 64 c2 c3 en en' W HLA.out.2 HLB.out.2 (by decide) (by decide) ((HBA.out.2.1.below HX5.out HBA.out.2.2).below hW (Nat.le_trans HBA.out.2.2 HX5.out.size)) ((HBB.out.below HX5.out (Nat.le_refl _)).below hW HX5.out.size)
          rwa [HSN.out] at h
        obtain ⟨y0, y1, y2, y3, y4, y5⟩ := six_cells HT5.out.1
        obtain ⟨z0, z1, z2, z3, z4, z5⟩ := six_cells HT5.out.2.1
        have hst : (s = t) ∨ (decide (s = t) = false ∧ (s == t) = false) := by
          by_cases h : s = t
          · exact .inl h
          · exact .inr ⟨decide_eq_false h, by rw [beq_eq_false_iff_ne]; exact h⟩
        rcases hst with rfl | ⟨q1, q2⟩
        all_goals
          go_region_held3 (fun W => (W.cell? ⟨ga, 0, none⟩ = some (.int .i64 a) ∧ W.cell? ⟨ga, 1, none⟩ = some (.int .i64 b) ∧ W.cell? ⟨ga, 2, none⟩ = some (.int .i64 c) ∧ W.cell? ⟨ga, 3, none⟩ = some (.int .i64 d) ∧ W.cell? ⟨ga, 4, none⟩ = some (.int .i64 e) ∧ W.cell? ⟨ga, 5, none⟩ = some (.int .i64 f)) ∧ (W.cell? ⟨gb, 0, none⟩ = some (.int .i64 a') ∧ W.cell? ⟨gb, 1, none⟩ = some (.int .i64 b') ∧ W.cell? ⟨gb, 2, none⟩ = some (.int .i64 c') ∧ W.cell? ⟨gb, 3, none⟩ = some (.int .i64 d') ∧ W.cell? ⟨gb, 4, none⟩ = some (.int .i64 e') ∧ W.cell? ⟨gb, 5, none⟩ = some (.int .i64 f')))
            (first
              | go_keep
              | exact ⟨six_cells HT6.out.1, six_cells HT6.out.2.1⟩)
            (first
              | (go_at_call 12; refine (HAW.out _ (below_drawn HT5.out.2.2 1)).mono ?_; rintro r w6 ⟨rfl, hb6⟩; have HT6 := Lib.hid (HT5.out.next hb6 (by rfl) (by rfl) (by rfl) (by rfl)); have HX6 : Hid (Below w5.heap.size w5 w6) := ⟨hb6.os, hb6.tape, hb6.output, hb6.size, hb6.block⟩; clear hb6)
              | (go_at_call 17; refine (HRE.out _ HX6.out).mono ?_; rintro r w9 ⟨rfl, q9, rfl⟩))
        all_goals
          go_wp2
          go_ret
          exact ⟨ret_bool (by simp), below_drawn HT6.out.2.2 _⟩
      · have f1 : (er' != 0) = true := by rw [bne_iff_ne]; exact h2
        subst h1
        clear h2 HY2 HY3 HSM HDE HEA HEB
        go_wp2_with (go_at_call 12; refine (HAW.out _ HT3.out.2.2).mono ?_; rintro r w6 ⟨rfl, hb6⟩; have HT6 := Lib.hid (HT3.out.next hb6 (by rfl) (by rfl) (by rfl) (by rfl)); clear hb6)
        go_ret
        exact ⟨rfl, HT6.out.2.2⟩
    · have f1 : (er != 0) = true := by rw [bne_iff_ne]; exact h1
      clear h1 HY2 HY3 HSM HDE HEA HEB
      go_wp2_with (go_at_call 12; refine (HAW.out _ HT3.out.2.2).mono ?_; rintro r w6 ⟨rfl, hb6⟩; have HT6 := Lib.hid (HT3.out.next hb6 (by rfl) (by rfl) (by rfl) (by rfl)); clear hb6)
      go_ret
      exact ⟨rfl, HT6.out.2.2⟩
end Go.Proofs.YtjfgnojmdbfnmaaDoor
