/-
  The walk of header.Decode.
-/
import Derived.Test.YtjfgnojmdbfnmaaDoorHdParse
namespace Go.Proofs.YtjfgnojmdbfnmaaDoor
open Go.RowKit
/-- No header was decoded. -/
def NoHd (w : World) (r : Ending) (w' : World) : Prop := r = .returned (.tuple #[.agg #[.int .i64 0, .int .i64 0, .int .i64 0, .int .i64 0, .int .i64 0, .int .i64 0], .bool false]) ∧ Below w.heap.size w w'
/-- A header was decoded. -/
def GotHd (w : World) (h : Hd.H) (r : Ending) (w' : World) : Prop := r = .returned (.tuple #[.agg #[.int .i64 h.ver, .int .i64 h.slot, .int .i64 h.lay, .int .i64 h.seq, .int .i64 h.tail, .int .i64 h.now], .bool true]) ∧ Below w.heap.size w w'
theorem sd_far {w w1 : World} {cs cs' : Array Value} {t t' : TypeId} (h : Sd w w.heap.size (.cells cs t (0, 0)) w1) (hlt : w.heap.size < w1.heap.size) : Sd w w.heap.size (.cells cs t (0, 0)) (w1.alloc (.cells cs' t')) :=
  ⟨(heap_alloc_old _ _ hlt).trans h.1, h.2.alloc h.2.size _⟩
theorem res6 {w w1 : World} {a b c d e f a' b' c' d' e' f' : Value} {t : TypeId} (h : Sd w w.heap.size (.cells #[a, b, c, d, e, f] t (0, 0)) w1) :
    Below w.heap.size w ((((((w1.setCell ⟨w.heap.size, 0, none⟩ a').setCell ⟨w.heap.size, 1, none⟩ b').setCell ⟨w.heap.size, 2, none⟩ c').setCell ⟨w.heap.size, 3, none⟩ d').setCell ⟨w.heap.size, 4, none⟩ e').setCell ⟨w.heap.size, 5, none⟩ f') :=
  h.2.trans (below_of_grown (stored6_grown _ _ _ _ _ _ _ _) (Nat.le_refl _) h.2.size)
set_option maxHeartbeats 2000000 in
theorem hddecode_any (x : Int) (A : Option Addr) (B n c : Nat) (l : List Nat) (w : World) (hB : B ≤ w.heap.size) (hs : SlIs A n c) (hl : Hid (l.length = n)) (hb : Hid (Bs w B A l)) (ht : Hid (TabW w)) (hz : 0 < w.heap.size) :
    Calls Tryd.prog 16 #[.slice A n c, .int .i64 x] w fun r w' => (Hd.good x l ∧ GotHd w (Hd.rd (Rc.sub l 1 59)) r w') ∨ (¬ Hd.good x l ∧ NoHd w r w') := by
  have HD : Hid (∀ W, Below w.heap.size w W → Calls Tryd.prog 36 #[.int .i64 1, .int .i64 0, .int .i64 x, .slice A n c] W fun e w' => (Fr.good 1 0 x l ∧ GotFr W (Rc.sub l 1 59) e w') ∨ (¬ Fr.good 1 0 x l ∧ NoFr W e w')) := fun W hW =>
    frdecode_any 1 0 x A B n c l W (by decide) (Nat.le_trans hB hW.size) hs hl (hb.out.below hW hB) (ht.out.below hW hz) (Nat.lt_of_lt_of_le hz hW.size)
  have HPA : Hid (Fr.good 1 0 x l → ∀ W A1 c1, SlIs A1 59 c1 → Bs W W.heap.size A1 (Rc.sub l 1 59) → Calls Tryd.prog 37 #[.slice A1 59 c1] W fun r w' => r = .returned (.tuple #[.agg #[.int .i64 (Hd.rd (Rc.sub l 1 59)).ver, .int .i64 (Hd.rd (Rc.sub l 1 59)).slot, .int .i64 (Hd.rd (Rc.sub l 1 59)).lay, .int .i64 (Hd.rd (Rc.sub l 1 59)).seq, .int .i64 (Hd.rd (Rc.sub l 1 59)).tail, .int .i64 (Hd.rd (Rc.sub l 1 59)).now], .bool (Hd.rest0 (Rc.sub l 1 59))]) ∧ Below W.heap.size W w') := fun hg W A1 c1 h1 h2 =>
    hdparse_any A1 W.heap.size c1 _ W (Nat.le_refl _) h1 (Fr.sub59 l hg.2.1) h2
  have HV : Hid (∀ W, Calls Tryd.prog 13 #[.agg #[.int .i64 (Hd.rd (Rc.sub l 1 59)).ver, .int .i64 (Hd.rd (Rc.sub l 1 59)).slot, .int .i64 (Hd.rd (Rc.sub l 1 59)).lay, .int .i64 (Hd.rd (Rc.sub l 1 59)).seq, .int .i64 (Hd.rd (Rc.sub l 1 59)).tail, .int .i64 (Hd.rd (Rc.sub l 1 59)).now]] W fun r w' => r = .returned (.bool (decide (Hd.valid (Hd.rd (Rc.sub l 1 59))))) ∧ Below W.heap.size W w') := fun W => hdvalid_any _ _ _ _ _ _ W
  have HG : Hid (Hd.good x l ↔ Fr.good 1 0 x l ∧ Hd.valid (Hd.rd (Rc.sub l 1 59)) ∧ Hd.rest0 (Rc.sub l 1 59) = true) := Iff.rfl
  clear hs hl hb ht
  unfold GotFr NoFr at HD
  generalize Rc.sub l 1 59 = p at *
  generalize Hd.rest0 p = z at *
  generalize Fr.good 1 0 x l = G at *
  generalize Hd.good x l = HGd at *
  generalize Hd.rd p = h at *
  obtain ⟨h0, h1, h2, h3, h4, h5⟩ := h
  unfold GotHd NoHd
  have HS0 := Lib.hid (sd_new w #[.int .i64 0, .int .i64 0, .int .i64 0, .int .i64 0, .int .i64 0, .int .i64 0] 23)
  simp only at HPA HV ⊢
  go_enter Tryd.func16, Tryd.ntmps16
  go_wp2_with fail
  generalize w.alloc (.cells #[.int .i64 0, .int .i64 0, .int .i64 0, .int .i64 0, .int .i64 0, .int .i64 0] 23) = w0 at *
  refine (HD.out _ HS0.out.2).mono ?_
  rintro r w1 (⟨hg, A1, c1, rfl, hs1, hbs1, hb1⟩ | ⟨hg, rfl, hb1⟩)
  · have HS1 := Lib.hid (HS0.out.next hb1 (by rfl) (by rfl) (by rfl) (by rfl))
    have HP1 := Lib.hid (HPA.out hg w1 A1 c1 hs1 hbs1.bs)
    have HGG : Hid (HGd ↔ Hd.valid ⟨h0, h1, h2, h3, h4, h5⟩ ∧ z = true) := HG.out.trans ⟨fun h => h.2, fun h => ⟨hg, h⟩⟩
    clear hb1 hs1 hbs1 hg HPA HD HG
    go_wp2_with fail
    refine HP1.out.mono ?_
    rintro r w2 ⟨rfl, hb2⟩
    have HS2 := Lib.hid (HS1.out.next hb2 (by rfl) (by rfl) (by rfl) (by rfl))
    have HS3 := Lib.hid (sd_far (cs' := #[.int .i64 h0, .int .i64 h1, .int .i64 h2, .int .i64 h3, .int .i64 h4, .int .i64 h5]) (t' := 23) HS2.out HS2.out.lt)
    have HN3 : Hid ((w2.alloc (.cells #[.int .i64 h0, .int .i64 h1, .int .i64 h2, .int .i64 h3, .int .i64 h4, .int .i64 h5] 23)).heap[w2.heap.size]? = some (.cells #[.int .i64 h0, .int .i64 h1, .int .i64 h2, .int .i64 h3, .int .i64 h4, .int .i64 h5] 23 (0, 0))) := heap_alloc_new _ _
    clear hb2
    cases z with
    | false =>
      have HF : Hid (¬ HGd) := fun h => by have := (HGG.out.1 h).2; cases this
      obtain ⟨y0, y1, y2, y3, y4, y5⟩ := six_cells HS3.out.1
      obtain ⟨f0, f1, f2, f3, f4, f5⟩ := six_frozen HS3.out.1
      go_wp2_with fail
      (try simp only [Exit.inBlock, Exit.then])
      refine bodyPost_ret (results_row2 rfl _ _ w.heap.size _ _ (0, 0) _ rfl (stored6 HS3.out.1) Tryd.underlying23 rfl (by kernel_rfl)) rfl ?_
      exact .inr ⟨HF.out, rfl, res6 HS3.out⟩
    | true =>
      have HVC : (Hd.valid ⟨h0, h1, h2, h3, h4, h5⟩ ∧ Hid HGd ∧ Hid (∀ W, Calls Tryd.prog 13 #[.agg #[.int .i64 h0, .int .i64 h1, .int .i64 h2, .int .i64 h3, .int .i64 h4, .int .i64 h5]] W fun r w' => r = .returned (.bool true) ∧ Below W.heap.size W w')) ∨ (Hid (¬ HGd) ∧ Hid (∀ W, Calls Tryd.prog 13 #[.agg #[.int .i64 h0, .int .i64 h1, .int .i64 h2, .int .i64 h3, .int .i64 h4, .int .i64 h5]] W fun r w' => r = .returned (.bool false) ∧ Below W.heap.size W w')) := by
        by_cases hv : Hd.valid ⟨h0, h1, h2, h3, h4, h5⟩
        · rw [decide_eq_true hv] at HV
          exact .inl ⟨hv, HGG.out.2 ⟨hv, rfl⟩, HV⟩
        · rw [decide_eq_false hv] at HV
          exact .inr ⟨fun h => hv (HGG.out.1 h).1, HV⟩
      clear HV HGG
      rcases HVC with ⟨-, HF, HV⟩ | ⟨HF, HV⟩
      · go_wp2_with fail
        generalize w2.alloc (.cells #[.int .i64 h0, .int .i64 h1, .int .i64 h2, .int .i64 h3, .int .i64 h4, .int .i64 h5] 23) = w3 at *
        refine (HV.out _).mono ?_
        rintro r w4 ⟨rfl, hb4⟩
        have HS4 := Lib.hid (HS3.out.next hb4 (by rfl) (by rfl) (by rfl) (by rfl))
        have HN4 : Hid (w4.heap[w2.heap.size]? = some (.cells #[.int .i64 h0, .int .i64 h1, .int .i64 h2, .int .i64 h3, .int .i64 h4, .int .i64 h5] 23 (0, 0))) := (hb4.block _ (Array.getElem?_eq_some_iff.1 HN3.out).1).trans HN3.out
        clear hb4
        obtain ⟨z0, z1, z2, z3, z4, z5⟩ := six_cells HN4.out
        obtain ⟨y0, y1, y2, y3, y4, y5⟩ := six_cells HS4.out.1
        obtain ⟨f0, f1, f2, f3, f4, f5⟩ := six_frozen HS4.out.1
        go_wp2_with fail
        (try simp only [Exit.inBlock, Exit.then])
        refine bodyPost_ret (results_row2 rfl _ _ w.heap.size _ _ (0, 0) _ rfl (stored6 HS4.out.1) Tryd.underlying23 rfl (by kernel_rfl)) rfl ?_
        exact .inl ⟨HF.out, rfl, res6 HS4.out⟩
      · go_wp2_with fail
        generalize w2.alloc (.cells #[.int .i64 h0, .int .i64 h1, .int .i64 h2, .int .i64 h3, .int .i64 h4, .int .i64 h5] 23) = w3 at *
        refine (HV.out _).mono ?_
        rintro r w4 ⟨rfl, hb4⟩
        have HS4 := Lib.hid (HS3.out.next hb4 (by rfl) (by rfl) (by rfl) (by rfl))
        clear hb4
        obtain ⟨y0, y1, y2, y3, y4, y5⟩ := six_cells HS4.out.1
        obtain ⟨f0, f1, f2, f3, f4, f5⟩ := six_frozen HS4.out.1
        go_wp2_with fail
        (try simp only [Exit.inBlock, Exit.then])
        refine bodyPost_ret (results_row2 rfl _ _ w.heap.size _ _ (0, 0) _ rfl (stored6 HS4.out.1) Tryd.underlying23 rfl (by kernel_rfl)) rfl ?_
        exact .inr ⟨HF.out, rfl, res6 HS4.out⟩
  · have HS1 := Lib.hid (HS0.out.next hb1 (by rfl) (by rfl) (by rfl) (by rfl))
    have HF : Hid (¬ HGd) := fun h => hg (HG.out.1 h).1
    clear hb1 hg
    obtain ⟨y0, y1, y2, y3, y4, y5⟩ := six_cells HS1.out.1
    obtain ⟨f0, f1, f2, f3, f4, f5⟩ := six_frozen HS1.out.1
    go_wp2_with fail
    (try simp only [Exit.inBlock, Exit.then])
    refine bodyPost_ret (results_row2 rfl _ _ w.heap.size _ _ (0, 0) _ rfl (stored6 HS1.out.1) Tryd.underlying23 rfl (by kernel_rfl)) rfl ?_
    exact .inr ⟨HF.out, rfl, res6 HS1.out⟩
end Go.Proofs.YtjfgnojmdbfnmaaDoor
