/-
  The walk of plan.Decode.
-/
import Derived.Test.YtpidbakjpfngnaaDoorPlParse
set_option maxRecDepth 100000
namespace Go.Proofs.YtpidbakjpfngnaaDoor
open Go.RowKit
/-- No record was decoded. -/
def NoPl (w : World) (r : Ending) (w' : World) : Prop := r = .returned (.tuple #[.agg #[.int .i64 0, .int .i64 0, .int .i64 0, .int .i64 0, .int .i64 0, .int .i64 0, .int .i64 0, .int .i64 0], .bool false]) ∧ Below w.heap.size w w'
/-- A record was decoded. -/
def GotPl (w : World) (p : Pl.P) (r : Ending) (w' : World) : Prop := r = .returned (.tuple #[.agg #[.int .i64 p.kind, .int .i64 p.mig, .int .i64 p.idx, .int .i64 p.tail, .int .i64 p.t.id, .int .i64 p.t.ver, .int .i64 p.t.rs, .int .i64 p.t.reg], .bool true]) ∧ Below w.heap.size w w'
/-- What a decoder says of the bytes l for the sector x. -/
def DecPl (w : World) (x : Int) (l : List Nat) (r : Ending) (w' : World) : Prop := (∃ p, Pl.good x l p ∧ GotPl w p r w') ∨ ((¬ ∃ p, Pl.good x l p) ∧ NoPl w r w')
theorem sd_made {w w1 : World} {cs cs' : Array Value} {t t' : TypeId} (h : Sd w w.heap.size (.cells cs t (0, 0)) w1) : Sd w w.heap.size (.cells cs t (0, 0)) (w1.alloc (.cells cs' t')) :=
  ⟨(heap_alloc_old _ _ h.lt).trans h.1, h.2.alloc h.2.size _⟩
theorem pl_dec {w : World} {x : Int} {l : List Nat} {r : Ending} {w' : World} {G : Prop} (hG : G ↔ ∃ p, Pl.good x l p) {q : Pl.P} (hq : ∀ p, Pl.good x l p → q = p) (h : (G ∧ GotPl w q r w') ∨ (¬ G ∧ NoPl w r w')) : DecPl w x l r w' := by
  rcases h with ⟨h1, h2⟩ | ⟨h1, h2⟩
  · obtain ⟨p, hp⟩ := hG.1 h1
    exact .inl ⟨p, hp, by rw [← hq p hp]; exact h2⟩
  · exact .inr ⟨fun k => h1 (hG.2 k), h2⟩
set_option maxHeartbeats 2000000 in
theorem pldecode_any (x : Int) (A : Option Addr) (B n c : Nat) (l : List Nat) (w : World) (hB : B ≤ w.heap.size) (hs : SlIs A n c) (hl : Hid (l.length = n)) (hb : Hid (Bs w B A l)) (ht : Hid (TabW w)) (hz : 0 < w.heap.size) :
    Calls Tryd.prog 50 #[.slice A n c, .int .i64 x] w (DecPl w x l) := by
  have HD : Hid (∀ W, Below w.heap.size w W → Calls Tryd.prog 67 #[.int .i64 4, .int .i64 0, .int .i64 x, .slice A n c] W fun e w' => (Fr.good 4 0 x l ∧ GotFr W (Rc.sub l 1 59) e w') ∨ (¬ Fr.good 4 0 x l ∧ NoFr W e w')) := fun W hW =>
    frdecode_any 4 0 x A B n c l W (by decide) (Nat.le_trans hB hW.size) hs hl (hb.out.below hW hB) (ht.out.below hW hz) (Nat.lt_of_lt_of_le hz hW.size)
  have HPA : Hid (Fr.good 4 0 x l → ∀ W A1 c1, SlIs A1 59 c1 → Bs W W.heap.size A1 (Rc.sub l 1 59) → Calls Tryd.prog 68 #[.slice A1 59 c1] W fun r w' => r = .returned (.tuple #[.agg #[.int .i64 (Pl.rd Pl.rl (Rc.sub l 1 59)).kind, .int .i64 (Pl.rd Pl.rl (Rc.sub l 1 59)).mig, .int .i64 (Pl.rd Pl.rl (Rc.sub l 1 59)).idx, .int .i64 (Pl.rd Pl.rl (Rc.sub l 1 59)).tail, .int .i64 (Pl.rd Pl.rl (Rc.sub l 1 59)).t.id, .int .i64 (Pl.rd Pl.rl (Rc.sub l 1 59)).t.ver, .int .i64 (Pl.rd Pl.rl (Rc.sub l 1 59)).t.rs, .int .i64 (Pl.rd Pl.rl (Rc.sub l 1 59)).t.reg], .bool (Pl.rest0 (Rc.sub l 1 59))]) ∧ Below W.heap.size W w') := fun hg W A1 c1 h1 h2 =>
    plparse_any A1 W.heap.size c1 _ W (Nat.le_refl _) h1 (Fr.sub59 l hg.2.1) h2
  have HV : Hid (∀ W, Calls Tryd.prog 41 #[.agg #[.int .i64 (Pl.rd Pl.rl (Rc.sub l 1 59)).kind, .int .i64 (Pl.rd Pl.rl (Rc.sub l 1 59)).mig, .int .i64 (Pl.rd Pl.rl (Rc.sub l 1 59)).idx, .int .i64 (Pl.rd Pl.rl (Rc.sub l 1 59)).tail, .int .i64 (Pl.rd Pl.rl (Rc.sub l 1 59)).t.id, .int .i64 (Pl.rd Pl.rl (Rc.sub l 1 59)).t.ver, .int .i64 (Pl.rd Pl.rl (Rc.sub l 1 59)).t.rs, .int .i64 (Pl.rd Pl.rl (Rc.sub l 1 59)).t.reg]] W fun r w' => r = .returned (.bool (decide (Pl.valid (Pl.rd Pl.rl (Rc.sub l 1 59))))) ∧ Below W.heap.size W w') := fun W => plvalid_any _ _ _ _ _ _ _ _ W
  have HG : Hid ((∃ p, Pl.good x l p) ↔ Fr.good 4 0 x l ∧ Pl.rest0 (Rc.sub l 1 59) = true ∧ Pl.valid (Pl.rd Pl.rl (Rc.sub l 1 59))) := Pl.good_iff0 Pl.rl_reads Pl.rl_backs x l hb.out.lt
  have HQ : Hid (∀ r w', (((∃ p, Pl.good x l p) ∧ GotPl w (Pl.rd Pl.rl (Rc.sub l 1 59)) r w') ∨ (¬ (∃ p, Pl.good x l p) ∧ NoPl w r w')) → DecPl w x l r w') := fun r w' h => pl_dec Iff.rfl (fun p hp => Pl.good_rd Pl.rl_reads hp) h
  refine Calls.mono ?_ HQ.out
  clear hs hl hb ht HQ
  unfold GotFr NoFr at HD
  generalize Rc.sub l 1 59 = p at *
  generalize Pl.rest0 p = z at *
  generalize Fr.good 4 0 x l = G at *
  generalize (∃ p, Pl.good x l p) = HGd at *
  generalize Pl.rd Pl.rl p = h at *
  obtain ⟨h0, h1, h2, h3, ⟨h4, h5, h6, h7⟩⟩ := h
  unfold GotPl NoPl
  have HS0 := Lib.hid (sd_new w #[.int .i64 0, .int .i64 0, .int .i64 0, .int .i64 0, .int .i64 0, .int .i64 0, .int .i64 0, .int .i64 0] 34)
  simp only at HPA HV ⊢
  go_enter Tryd.func50, Tryd.ntmps50
  go_wp2_with fail
  generalize w.alloc (.cells #[.int .i64 0, .int .i64 0, .int .i64 0, .int .i64 0, .int .i64 0, .int .i64 0, .int .i64 0, .int .i64 0] 34) = w0 at *
  refine (HD.out _ HS0.out.2).mono ?_
  rintro r w1 (⟨hg, A1, c1, rfl, hs1, hbs1, hb1⟩ | ⟨hg, rfl, hb1⟩)
  · have HS1 := Lib.hid (HS0.out.next hb1 (by rfl) (by rfl) (by rfl) (by rfl))
    have HP1 := Lib.hid (HPA.out hg w1 A1 c1 hs1 hbs1.bs)
    have HGG : Hid (HGd ↔ z = true ∧ Pl.valid ⟨h0, h1, h2, h3, ⟨h4, h5, h6, h7⟩⟩) := HG.out.trans ⟨fun h => h.2, fun h => ⟨hg, h⟩⟩
    clear hb1 hs1 hbs1 hg HPA HD HG
    go_wp2_with fail
    refine HP1.out.mono ?_
    rintro r w2 ⟨rfl, hb2⟩
    have HS2 := Lib.hid (HS1.out.next hb2 (by rfl) (by rfl) (by rfl) (by rfl))
    have HS3 := Lib.hid (sd_made (cs' := #[.int .i64 h0, .int .i64 h1, .int .i64 h2, .int .i64 h3, .int .i64 h4, .int .i64 h5, .int .i64 h6, .int .i64 h7]) (t' := 34) HS2.out)
    have HN3 : Hid ((w2.alloc (.cells #[.int .i64 h0, .int .i64 h1, .int .i64 h2, .int .i64 h3, .int .i64 h4, .int .i64 h5, .int .i64 h6, .int .i64 h7] 34)).heap[w2.heap.size]? = some (.cells #[.int .i64 h0, .int .i64 h1, .int .i64 h2, .int .i64 h3, .int .i64 h4, .int .i64 h5, .int .i64 h6, .int .i64 h7] 34 (0, 0))) := heap_alloc_new _ _
    clear hb2
    cases z with
    | false =>
      have HF : Hid (¬ HGd) := fun h => by have := (HGG.out.1 h).1; cases this
      obtain ⟨y0, y1, y2, y3, y4, y5, y6, y7⟩ := eight_cells HS3.out.1
      obtain ⟨f0, f1, f2, f3, f4, f5, f6, f7⟩ := eight_frozen HS3.out.1
      go_wp2_with fail
      (try simp only [Exit.inBlock, Exit.then])
      refine bodyPost_ret (results_row2 rfl _ _ w.heap.size _ _ (0, 0) _ rfl (stored8 HS3.out.1) Tryd.underlying34 rfl (by kernel_rfl)) rfl ?_
      exact .inr ⟨HF.out, rfl, sd8_res HS3.out (Nat.le_refl _)⟩
    | true =>
      have HVC : (Hid HGd ∧ Hid (∀ W, Calls Tryd.prog 41 #[.agg #[.int .i64 h0, .int .i64 h1, .int .i64 h2, .int .i64 h3, .int .i64 h4, .int .i64 h5, .int .i64 h6, .int .i64 h7]] W fun r w' => r = .returned (.bool true) ∧ Below W.heap.size W w')) ∨ (Hid (¬ HGd) ∧ Hid (∀ W, Calls Tryd.prog 41 #[.agg #[.int .i64 h0, .int .i64 h1, .int .i64 h2, .int .i64 h3, .int .i64 h4, .int .i64 h5, .int .i64 h6, .int .i64 h7]] W fun r w' => r = .returned (.bool false) ∧ Below W.heap.size W w')) := by
        by_cases hv : Pl.valid ⟨h0, h1, h2, h3, ⟨h4, h5, h6, h7⟩⟩
        · rw [decide_eq_true hv] at HV
          exact .inl ⟨HGG.out.2 ⟨rfl, hv⟩, HV⟩
        · rw [decide_eq_false hv] at HV
          exact .inr ⟨fun h => hv (HGG.out.1 h).2, HV⟩
      clear HV HGG
      go_upto_region 5 with fail
      generalize (w2.alloc (.cells #[.int .i64 h0, .int .i64 h1, .int .i64 h2, .int .i64 h3, .int .i64 h4, .int .i64 h5, .int .i64 h6, .int .i64 h7] 34)) = w3 at *
      obtain ⟨z0, z1, z2, z3, z4, z5, z6, z7⟩ := eight_cells HN3.out
      rcases HVC with ⟨HF, HV⟩ | ⟨HF, HV⟩
      · go_wp2_with fail
        refine (HV.out _).mono ?_
        rintro r w4 ⟨rfl, hb4⟩
        have HS4 := Lib.hid (HS3.out.next hb4 (by rfl) (by rfl) (by rfl) (by rfl))
        have HN4 : Hid (w4.heap[w2.heap.size]? = some (.cells #[.int .i64 h0, .int .i64 h1, .int .i64 h2, .int .i64 h3, .int .i64 h4, .int .i64 h5, .int .i64 h6, .int .i64 h7] 34 (0, 0))) := (hb4.block _ (Array.getElem?_eq_some_iff.1 HN3.out).1).trans HN3.out
        clear hb4 z0 z1 z2 z3 z4 z5 z6 z7
        obtain ⟨z0, z1, z2, z3, z4, z5, z6, z7⟩ := eight_cells HN4.out
        obtain ⟨y0, y1, y2, y3, y4, y5, y6, y7⟩ := eight_cells HS4.out.1
        obtain ⟨f0, f1, f2, f3, f4, f5, f6, f7⟩ := eight_frozen HS4.out.1
        go_wp2_with fail
        (try simp only [Exit.inBlock, Exit.then])
        refine bodyPost_ret (results_row2 rfl _ _ w.heap.size _ _ (0, 0) _ rfl (stored8 HS4.out.1) Tryd.underlying34 rfl (by kernel_rfl)) rfl ?_
        exact .inl ⟨HF.out, rfl, sd8_res HS4.out (Nat.le_refl _)⟩
      · go_wp2_with fail
        refine (HV.out _).mono ?_
        rintro r w4 ⟨rfl, hb4⟩
        have HS4 := Lib.hid (HS3.out.next hb4 (by rfl) (by rfl) (by rfl) (by rfl))
        clear hb4 z0 z1 z2 z3 z4 z5 z6 z7
        obtain ⟨y0, y1, y2, y3, y4, y5, y6, y7⟩ := eight_cells HS4.out.1
        obtain ⟨f0, f1, f2, f3, f4, f5, f6, f7⟩ := eight_frozen HS4.out.1
        go_wp2_with fail
        (try simp only [Exit.inBlock, Exit.then])
        refine bodyPost_ret (results_row2 rfl _ _ w.heap.size _ _ (0, 0) _ rfl (stored8 HS4.out.1) Tryd.underlying34 rfl (by kernel_rfl)) rfl ?_
        exact .inr ⟨HF.out, rfl, sd8_res HS4.out (Nat.le_refl _)⟩
  · have HS1 := Lib.hid (HS0.out.next hb1 (by rfl) (by rfl) (by rfl) (by rfl))
    have HF : Hid (¬ HGd) := fun h => hg (HG.out.1 h).1
    clear hb1 hg
    obtain ⟨y0, y1, y2, y3, y4, y5, y6, y7⟩ := eight_cells HS1.out.1
    obtain ⟨f0, f1, f2, f3, f4, f5, f6, f7⟩ := eight_frozen HS1.out.1
    go_wp2_with fail
    (try simp only [Exit.inBlock, Exit.then])
    refine bodyPost_ret (results_row2 rfl _ _ w.heap.size _ _ (0, 0) _ rfl (stored8 HS1.out.1) Tryd.underlying34 rfl (by kernel_rfl)) rfl ?_
    exact .inr ⟨HF.out, rfl, sd8_res HS1.out (Nat.le_refl _)⟩
end Go.Proofs.YtpidbakjpfngnaaDoor
