/-
  The walks of the statements on Valid, Encode and Decode of headers.
-/
import Derived.Test.YtjfgnojmdbfnmaaDoorHdAwake
import Derived.Test.YtjfgnojmdbfnmaaDoorHdRefDecode
namespace Go.Proofs.YtjfgnojmdbfnmaaDoor
open Go.RowKit
theorem hdr_eq' (w : World) (a b c d e f a' b' c' d' e' f' : Int) : (Op.equalIn 10000 23 (.agg #[.int .i64 a, .int .i64 b, .int .i64 c, .int .i64 d, .int .i64 e, .int .i64 f]) (.agg #[.int .i64 a', .int .i64 b', .int .i64 c', .int .i64 d', .int .i64 e', .int .i64 f'])).run Tryd.prog w = .ok (Hd.same ⟨a, b, c, d, e, f⟩ ⟨a', b', c', d', e', f'⟩) w := hdr_eq w ⟨a, b, c, d, e, f⟩ ⟨a', b', c', d', e', f'⟩
set_option maxHeartbeats 1000000 in
theorem headervalid_any (a b c d e f : Int) (w : World) (ht : Hid (TabW w)) (hz : 0 < w.heap.size) :
    Calls Tryd.prog 3 #[.agg #[.int .i64 a, .int .i64 b, .int .i64 c, .int .i64 d, .int .i64 e, .int .i64 f]] w fun r w' => r = .returned (.bool true) ∧ Below w.heap.size w w' := by
  have HAW : Hid (∀ W, Below w.heap.size w W → Calls Tryd.prog 12 #[] W fun e w' => e = .returned (.bool true) ∧ Below W.heap.size W w') := fun W hW => hdawake_any W (ht.out.below hW hz) (Nat.lt_of_lt_of_le hz hW.size)
  have HV := Lib.hid (fun W => hdvalid_any a b c d e f W)
  have HR := Lib.hid (fun W => refhdvalid_any a b c d e f W)
  generalize decide (Hd.valid ⟨a, b, c, d, e, f⟩) = t at *
  have HS0 := Lib.hid (sd_new w #[.int .i64 a, .int .i64 b, .int .i64 c, .int .i64 d, .int .i64 e, .int .i64 f] 23)
  go_enter Tryd.func3, Tryd.ntmps3
  go_wp2_with fail
  generalize w.alloc (.cells #[.int .i64 a, .int .i64 b, .int .i64 c, .int .i64 d, .int .i64 e, .int .i64 f] 23) = w0 at *
  obtain ⟨z0, z1, z2, z3, z4, z5⟩ := six_cells HS0.out.1
  go_region_held3 (fun W => W.cell? ⟨w.heap.size, 0, none⟩ = some (.int .i64 a) ∧ W.cell? ⟨w.heap.size, 1, none⟩ = some (.int .i64 b) ∧ W.cell? ⟨w.heap.size, 2, none⟩ = some (.int .i64 c) ∧ W.cell? ⟨w.heap.size, 3, none⟩ = some (.int .i64 d) ∧ W.cell? ⟨w.heap.size, 4, none⟩ = some (.int .i64 e) ∧ W.cell? ⟨w.heap.size, 5, none⟩ = some (.int .i64 f))
    (first
      | go_keep
      | exact six_cells HS1.out.1
      | exact six_cells HS2.out.1
      | exact six_cells HS3.out.1)
    (first
      | (go_at_call 12; refine (HAW.out _ (by exact HS0.out.2.drew)).mono ?_; rintro r w1 ⟨rfl, hb1⟩; have HS1 := Lib.hid (HS0.out.next hb1 (by rfl) (by rfl) (by rfl) (by rfl)); clear hb1)
      | (go_at_call 13; refine (HV.out _).mono ?_; rintro r w2 ⟨rfl, hb2⟩; have HS2 := Lib.hid (HS1.out.next hb2 (by rfl) (by rfl) (by rfl) (by rfl)); clear hb2)
      | (go_at_call 14; refine (HR.out _).mono ?_; rintro r w3 ⟨rfl, hb3⟩; have HS3 := Lib.hid (HS2.out.next hb3 (by rfl) (by rfl) (by rfl) (by rfl)); clear hb3))
  all_goals
    go_wp2
    go_ret
    exact ⟨ret_bool (by simp), HS3.out.2⟩
theorem both_dec (x : Int) (A : Option Addr) (B n c : Nat) (l : List Nat) (w : World) (hB : B ≤ w.heap.size) (hs : SlIs A n c) (hl : l.length = n) (hb : Bs w B A l) (hn : n ≤ 140737488355328) (ht : Hid (TabW w)) (hz : 0 < w.heap.size) :
    ∃ (t : Bool) (h0 h1 h2 h3 h4 h5 : Int), Hid (∀ W, Below w.heap.size w W → Calls Tryd.prog 16 #[.slice A n c, .int .i64 x] W fun r w' => r = .returned (.tuple #[.agg #[.int .i64 h0, .int .i64 h1, .int .i64 h2, .int .i64 h3, .int .i64 h4, .int .i64 h5], .bool t]) ∧ Below W.heap.size W w') ∧ Hid (∀ W, Below w.heap.size w W → Calls Tryd.prog 19 #[.slice A n c, .int .i64 x] W fun r w' => r = .returned (.tuple #[.agg #[.int .i64 h0, .int .i64 h1, .int .i64 h2, .int .i64 h3, .int .i64 h4, .int .i64 h5], .bool t]) ∧ Below W.heap.size W w') := by
  have HP : ∀ W, Below w.heap.size w W → Calls Tryd.prog 16 #[.slice A n c, .int .i64 x] W fun r w' => (Hd.good x l ∧ GotHd W (Hd.rd (Rc.sub l 1 59)) r w') ∨ (¬ Hd.good x l ∧ NoHd W r w') := fun W hW =>
    hddecode_any x A B n c l W (Nat.le_trans hB hW.size) hs hl (hb.below hW hB) (ht.out.below hW hz) (Nat.lt_of_lt_of_le hz hW.size)
  have HR : ∀ W, Below w.heap.size w W → Calls Tryd.prog 19 #[.slice A n c, .int .i64 x] W fun r w' => (Hd.good x l ∧ GotHd W (Hd.rd (Rc.sub l 1 59)) r w') ∨ (¬ Hd.good x l ∧ NoHd W r w') := fun W hW =>
    refhddec_any x A B n c l W (Nat.le_trans hB hW.size) hs hl (hb.below hW hB) hn
  unfold GotHd NoHd at HP HR
  generalize Hd.rd (Rc.sub l 1 59) = h at *
  by_cases hg : Hd.good x l
  · exact ⟨true, h.ver, h.slot, h.lay, h.seq, h.tail, h.now, fun W hW => (HP W hW).mono fun _ _ k => k.elim (fun k => k.2) (fun k => absurd hg k.1), fun W hW => (HR W hW).mono fun _ _ k => k.elim (fun k => k.2) (fun k => absurd hg k.1)⟩
  · exact ⟨false, 0, 0, 0, 0, 0, 0, fun W hW => (HP W hW).mono fun _ _ k => k.elim (fun k => absurd k.1 hg) (fun k => k.2), fun W hW => (HR W hW).mono fun _ _ k => k.elim (fun k => absurd k.1 hg) (fun k => k.2)⟩
set_option maxHeartbeats 2000000 in
theorem headerdecode_any (A : Option Addr) (n c : Nat) (l : List Nat) (x : Int) (w : World) (hs : SlIs A n c) (hb : Hid (l.length = n ∧ Bs w w.heap.size A l)) (ht : Hid (TabW w)) (hz : 0 < w.heap.size) :
    Calls Tryd.prog 5 #[.slice A n c, .int .i64 x] w fun r w' => r = .returned (.bool true) ∧ Below w.heap.size w w' := by
  obtain ⟨m, hm⟩ := min_is n 70
  obtain ⟨a1, a2⟩ := min_bs hb.out.1 hb.out.2 hm
  have q := min_sl hs hm
  have hm70 : m ≤ 70 := by unfold MinIs at hm; omega
  have HAW : Hid (∀ W, Below w.heap.size w W → Calls Tryd.prog 12 #[] W fun e w' => e = .returned (.bool true) ∧ Below W.heap.size W w') := fun W hW => hdawake_any W (ht.out.below hW hz) (Nat.lt_of_lt_of_le hz hW.size)
  obtain ⟨t, h0, h1, h2, h3, h4, h5, HP, HR⟩ := both_dec x A w.heap.size m c (l.take m) w (Nat.le_refl _) q a1 a2 (by omega) ht hz
  have hnc := hs.2.1
  have hc63 := hs.2.2
  clear a1 a2 q hs hb ht
  have hq := fun W : World => hdr_eq' W h0 h1 h2 h3 h4 h5 h0 h1 h2 h3 h4 h5
  rw [Hd.same_self] at hq
  go_enter Tryd.func5, Tryd.ntmps5
  go_upto_region 1 with fail
  go_cut [0] (fun s wx => s = .slice A m c ∧ w = wx)
  case first =>
    unfold MinIs at hm
    rcases hm with ⟨i0, rfl⟩ | ⟨i0, rfl⟩
    all_goals
      go_wp2_with fail
      go_meet
      exact ⟨rfl, rfl⟩
  case rest =>
    obtain ⟨rfl, rfl⟩ := hcut
    go_wp2_with fail
    refine (HP.out _ (Below.refl _ _)).mono ?_
    rintro r w2 ⟨rfl, hb2⟩
    have HB3 : Hid (Below w.heap.size w (w2.alloc (.cells #[.int .i64 h0, .int .i64 h1, .int .i64 h2, .int .i64 h3, .int .i64 h4, .int .i64 h5] 23))) := hb2.alloc hb2.size _
    have HN3 : Hid ((w2.alloc (.cells #[.int .i64 h0, .int .i64 h1, .int .i64 h2, .int .i64 h3, .int .i64 h4, .int .i64 h5] 23)).heap[w2.heap.size]? = some (.cells #[.int .i64 h0, .int .i64 h1, .int .i64 h2, .int .i64 h3, .int .i64 h4, .int .i64 h5] 23 (0, 0))) := heap_alloc_new _ _
    clear hb2
    go_wp2_with fail
    generalize w2.alloc (.cells #[.int .i64 h0, .int .i64 h1, .int .i64 h2, .int .i64 h3, .int .i64 h4, .int .i64 h5] 23) = w3 at *
    refine (HR.out _ HB3.out).mono ?_
    rintro r w4 ⟨rfl, hb4⟩
    have HN4 : Hid (w4.heap[w2.heap.size]? = some (.cells #[.int .i64 h0, .int .i64 h1, .int .i64 h2, .int .i64 h3, .int .i64 h4, .int .i64 h5] 23 (0, 0))) := (hb4.block _ (Array.getElem?_eq_some_iff.1 HN3.out).1).trans HN3.out
    have HB5 : Hid (Below w.heap.size w (w4.alloc (.cells #[.int .i64 h0, .int .i64 h1, .int .i64 h2, .int .i64 h3, .int .i64 h4, .int .i64 h5] 23))) := (HB3.out.trans (hb4.mono HB3.out.size)).alloc (HB3.out.trans (hb4.mono HB3.out.size)).size _
    have HN5 : Hid ((w4.alloc (.cells #[.int .i64 h0, .int .i64 h1, .int .i64 h2, .int .i64 h3, .int .i64 h4, .int .i64 h5] 23)).heap[w4.heap.size]? = some (.cells #[.int .i64 h0, .int .i64 h1, .int .i64 h2, .int .i64 h3, .int .i64 h4, .int .i64 h5] 23 (0, 0))) := heap_alloc_new _ _
    have HM5 : Hid ((w4.alloc (.cells #[.int .i64 h0, .int .i64 h1, .int .i64 h2, .int .i64 h3, .int .i64 h4, .int .i64 h5] 23)).heap[w2.heap.size]? = some (.cells #[.int .i64 h0, .int .i64 h1, .int .i64 h2, .int .i64 h3, .int .i64 h4, .int .i64 h5] 23 (0, 0))) := (heap_alloc_old _ _ (Array.getElem?_eq_some_iff.1 HN4.out).1).trans HN4.out
    clear hb4
    go_wp2_with fail
    generalize w4.alloc (.cells #[.int .i64 h0, .int .i64 h1, .int .i64 h2, .int .i64 h3, .int .i64 h4, .int .i64 h5] 23) = w5 at *
    refine (HAW.out _ HB5.out).mono ?_
    rintro r w6 ⟨rfl, hb6⟩
    have HN6 : Hid (w6.heap[w4.heap.size]? = some (.cells #[.int .i64 h0, .int .i64 h1, .int .i64 h2, .int .i64 h3, .int .i64 h4, .int .i64 h5] 23 (0, 0))) := (hb6.block _ (Array.getElem?_eq_some_iff.1 HN5.out).1).trans HN5.out
    have HM6 : Hid (w6.heap[w2.heap.size]? = some (.cells #[.int .i64 h0, .int .i64 h1, .int .i64 h2, .int .i64 h3, .int .i64 h4, .int .i64 h5] 23 (0, 0))) := (hb6.block _ (Array.getElem?_eq_some_iff.1 HM5.out).1).trans HM5.out
    have HB6 : Hid (Below w.heap.size w w6) := HB5.out.trans (hb6.mono HB5.out.size)
    clear hb6
    obtain ⟨y0, y1, y2, y3, y4, y5⟩ := six_cells HM6.out
    obtain ⟨z0, z1, z2, z3, z4, z5⟩ := six_cells HN6.out
    go_wp2
    go_ret
    exact ⟨ret_bool (by simp), HB6.out⟩
set_option maxHeartbeats 2000000 in
theorem headerframe_any (A : Option Addr) (n c : Nat) (l : List Nat) (x : Int) (w : World) (hs : SlIs A n c) (hb : Hid (l.length = n ∧ Bs w w.heap.size A l)) (ht : Hid (TabW w)) (hz : 0 < w.heap.size) :
    Calls Tryd.prog 6 #[.slice A n c, .int .i64 x] w fun r w' => r = .returned (.bool true) ∧ Below w.heap.size w w' := by
  obtain ⟨m, hm⟩ := min_is n 59
  obtain ⟨a1, a2⟩ := min_bs hb.out.1 hb.out.2 hm
  have q := min_sl hs hm
  have HAW : Hid (∀ W, Below w.heap.size w W → Calls Tryd.prog 12 #[] W fun e w' => e = .returned (.bool true) ∧ Below W.heap.size W w') := fun W hW => hdawake_any W (ht.out.below hW hz) (Nat.lt_of_lt_of_le hz hW.size)
  have hm59 : m ≤ 59 := by unfold MinIs at hm; omega
  have HEN : Hid (Calls Tryd.prog 20 #[.int .i64 1, .int .i64 0, .int .i64 x, .slice A m c] w (FrEnc w (Fr.enc 1 0 x (l.take m)) (Fr.err 1 0 x m))) :=
    frencode_any 1 0 x A w.heap.size m c _ w (by decide) (Nat.le_refl _) q a1 a2 ht hz
  have hnc := hs.2.1
  have hc63 := hs.2.2
  have HCASE : (Fr.err 1 0 x m = 0 ∧ Hid ((∀ y ∈ Fr.enc 1 0 x (l.take m), y < 256) ∧ (Fr.enc 1 0 x (l.take m)).length = 64)) ∨ (Fr.err 1 0 x m = 2) := by
    unfold Fr.err
    by_cases hma : Fr.may 1 0 x
    · exact .inl ⟨by rw [if_pos hma, if_neg (by omega)], Fr.enc_lt _ _ _ _ (by decide) a2.lt, Fr.enc_length _ _ _ _ (by rw [a1]; exact hm59)⟩
    · exact .inr (by rw [if_neg hma])
  clear a1 a2 q hs hb
  unfold FrEnc at HEN
  generalize Fr.enc 1 0 x (l.take m) = en at *
  generalize Fr.err 1 0 x m = er at *
  go_enter Tryd.func6, Tryd.ntmps6
  go_upto_region 1 with fail
  go_cut [0] (fun s wx => s = .slice A m c ∧ w = wx)
  case first =>
    unfold MinIs at hm
    rcases hm with ⟨i0, rfl⟩ | ⟨i0, rfl⟩
    all_goals
      go_wp2_with fail
      go_meet
      exact ⟨rfl, rfl⟩
  case rest =>
    obtain ⟨rfl, rfl⟩ := hcut
    go_wp2_with fail
    refine HEN.out.mono ?_
    rintro r w1 ⟨A1, n1, c1, rfl, hs1, hy1, hx1, hb1⟩
    have HB1 := Lib.hid hb1
    rcases HCASE with ⟨rfl, HEL⟩ | rfl
    · obtain ⟨rfl, hown⟩ := hy1 rfl
      obtain ⟨A1', c1', e1, hbs, -, -, -, -⟩ := own_bytes hown HEL.out.1
      injection e1 with e1 _ e3
      subst e1 e3
      obtain ⟨t, h0, h1, h2, h3, h4, h5, HP, HR⟩ := both_dec x A1 w1.heap.size 64 c1 en w1 (Nat.le_refl _) hs1 HEL.out.2 hbs (by decide) (ht.out.below hb1 hz) (Nat.lt_of_lt_of_le hz hb1.size)
      have hq := fun W : World => hdr_eq' W h0 h1 h2 h3 h4 h5 h0 h1 h2 h3 h4 h5
      rw [Hd.same_self] at hq
      clear hy1 hx1 hb1 hown hbs hs1 HEN
      go_wp2_with fail
      refine (HP.out _ (Below.refl _ _)).mono ?_
      rintro r w2 ⟨rfl, hb2⟩
      have HB3 : Hid (Below w1.heap.size w1 (w2.alloc (.cells #[.int .i64 h0, .int .i64 h1, .int .i64 h2, .int .i64 h3, .int .i64 h4, .int .i64 h5] 23))) := hb2.alloc hb2.size _
      have HN3 : Hid ((w2.alloc (.cells #[.int .i64 h0, .int .i64 h1, .int .i64 h2, .int .i64 h3, .int .i64 h4, .int .i64 h5] 23)).heap[w2.heap.size]? = some (.cells #[.int .i64 h0, .int .i64 h1, .int .i64 h2, .int .i64 h3, .int .i64 h4, .int .i64 h5] 23 (0, 0))) := heap_alloc_new _ _
      clear hb2
      go_wp2_with fail
      generalize w2.alloc (.cells #[.int .i64 h0, .int .i64 h1, .int .i64 h2, .int .i64 h3, .int .i64 h4, .int .i64 h5] 23) = w3 at *
      refine (HR.out _ HB3.out).mono ?_
      rintro r w4 ⟨rfl, hb4⟩
      have HN4 : Hid (w4.heap[w2.heap.size]? = some (.cells #[.int .i64 h0, .int .i64 h1, .int .i64 h2, .int .i64 h3, .int .i64 h4, .int .i64 h5] 23 (0, 0))) := (hb4.block _ (Array.getElem?_eq_some_iff.1 HN3.out).1).trans HN3.out
      have HB5 : Hid (Below w.heap.size w (w4.alloc (.cells #[.int .i64 h0, .int .i64 h1, .int .i64 h2, .int .i64 h3, .int .i64 h4, .int .i64 h5] 23))) := HB1.out.trans (((HB3.out.trans (hb4.mono HB3.out.size)).alloc (HB3.out.trans (hb4.mono HB3.out.size)).size _).mono HB1.out.size)
      have HN5 : Hid ((w4.alloc (.cells #[.int .i64 h0, .int .i64 h1, .int .i64 h2, .int .i64 h3, .int .i64 h4, .int .i64 h5] 23)).heap[w4.heap.size]? = some (.cells #[.int .i64 h0, .int .i64 h1, .int .i64 h2, .int .i64 h3, .int .i64 h4, .int .i64 h5] 23 (0, 0))) := heap_alloc_new _ _
      have HM5 : Hid ((w4.alloc (.cells #[.int .i64 h0, .int .i64 h1, .int .i64 h2, .int .i64 h3, .int .i64 h4, .int .i64 h5] 23)).heap[w2.heap.size]? = some (.cells #[.int .i64 h0, .int .i64 h1, .int .i64 h2, .int .i64 h3, .int .i64 h4, .int .i64 h5] 23 (0, 0))) := (heap_alloc_old _ _ (Array.getElem?_eq_some_iff.1 HN4.out).1).trans HN4.out
      clear hb4
      go_wp2_with fail
      generalize w4.alloc (.cells #[.int .i64 h0, .int .i64 h1, .int .i64 h2, .int .i64 h3, .int .i64 h4, .int .i64 h5] 23) = w5 at *
      refine (HAW.out _ HB5.out).mono ?_
      rintro r w6 ⟨rfl, hb6⟩
      have HN6 : Hid (w6.heap[w4.heap.size]? = some (.cells #[.int .i64 h0, .int .i64 h1, .int .i64 h2, .int .i64 h3, .int .i64 h4, .int .i64 h5] 23 (0, 0))) := (hb6.block _ (Array.getElem?_eq_some_iff.1 HN5.out).1).trans HN5.out
      have HM6 : Hid (w6.heap[w2.heap.size]? = some (.cells #[.int .i64 h0, .int .i64 h1, .int .i64 h2, .int .i64 h3, .int .i64 h4, .int .i64 h5] 23 (0, 0))) := (hb6.block _ (Array.getElem?_eq_some_iff.1 HM5.out).1).trans HM5.out
      have HB6 : Hid (Below w.heap.size w w6) := HB5.out.trans (hb6.mono HB5.out.size)
      clear hb6
      obtain ⟨y0, y1, y2, y3, y4, y5⟩ := six_cells HM6.out
      obtain ⟨z0, z1, z2, z3, z4, z5⟩ := six_cells HN6.out
      go_wp2
      go_ret
      exact ⟨ret_bool (by simp), HB6.out⟩
    · obtain rfl := hx1 (by decide)
      clear hy1 hx1 hb1 hs1 HEN
      go_wp2_with fail
      refine (HAW.out _ HB1.out).mono ?_
      rintro r w2 ⟨rfl, hb2⟩
      have HB2 : Hid (Below w.heap.size w w2) := HB1.out.trans (hb2.mono HB1.out.size)
      clear hb2
      go_wp2
      go_ret
      exact ⟨rfl, HB2.out⟩
end Go.Proofs.YtjfgnojmdbfnmaaDoor
