/-
  The walk of record.Decode.
-/
import Derived.Test.YtciaiaacboodeaaDoorRecParse2
import Derived.Test.YtciaiaacboodeaaDoorBytesEq
namespace Go.Proofs.YtciaiaacboodeaaDoor
open Go.RowKit

/-- Nothing was decoded. -/
def NoRec (w : World) (e : Ending) (w' : World) : Prop := e = .returned (.tuple #[.agg #[.int .i64 0, .slice none 0 0, .slice none 0 0, .int .i64 0], .int .i64 0, .bool false]) ∧ Below w.heap.size w w'
theorem bs_own {w : World} {B : Nat} {A : Option Addr} {l : List Nat} (h : Bs w B A l) : Bs w w.heap.size A l := fun k hk => by
  obtain ⟨a1, ad', e, _, h⟩ := h k hk
  refine ⟨a1, ad', e, ?_, h⟩
  have := World.block_lt_of_cell? w _ h
  rwa [add_block] at this
theorem decode_early (v seq off : Int) (A : Option Addr) (B n c : Nat) (l : List Nat) (w : World) (hA : A = none → c = 0 ∧ n = 0) (hnc : n ≤ c) (hc : c ≤ 9223372036854775807) (hl : Hid (l.length = n)) (hb : Hid (Bs w B A l)) (hf : ¬ Fits v l) :
    Calls Tryd.prog 8 #[.int .i64 v, .int .i64 seq, .int .i64 off, .slice A n c] w (NoRec w) := by
  have HP : Hid (∀ o : Obj, Calls Tryd.prog 19 #[.int .i64 v, .slice A n c] (w.alloc o) fun e w' => e = .returned (.tuple #[.agg #[.int .i64 0, .slice none 0 0, .slice none 0 0, .int .i64 0], .bool false]) ∧ Below (w.alloc o).heap.size (w.alloc o) w') := fun o => by
    unfold Fits at hf
    rw [hl.out] at hf
    by_cases h : n < 16
    · exact parse_short v A n c _ h
    · exact parse_no v A w.heap.size n c l _ hA hnc hc hl ((bs_own hb.out).below ((Below.refl _ w).alloc (Nat.le_refl _) o) (Nat.le_refl _)) (by omega) (by omega)
  clear hf
  go_enter Tryd.func8, Tryd.ntmps8
  go_wp2_with fail
  refine (HP.out _).mono ?_
  rintro e w1 ⟨rfl, hb1⟩
  obtain ⟨hr, hbb, -⟩ := after_head hb1 (.cells #[.int .i64 0, .slice none 0 0, .slice none 0 0, .int .i64 0] 26)
  obtain ⟨c0, c1, c2, c3⟩ := four_cells hr
  obtain ⟨f0, f1, f2, f3⟩ := four_frozen hr
  have HR := Lib.hid hr
  have HBB := Lib.hid hbb
  clear hr hbb hb1
  go_wp2_with fail
  (try simp only [Exit.inBlock, Exit.then])
  refine bodyPost_ret (results_row3 rfl _ _ w.heap.size _ _ (0, 0) _ rfl (stored HR.out) Tryd.underlying26 rfl (by kernel_rfl)) rfl ?_
  exact ⟨rfl, HBB.out.trans (below_of_grown (stored_grown _ _ _ _ _ _) (Nat.le_refl _) HBB.out.size)⟩
/-- The record that the head tells, checked by its parts' lengths. -/
theorem rec_check (v : Int) (l : List Nat) (h : Fits v l) : Rc.check v (Rc.rec v l) = Rc.chk v (Rc.kd v l : Int) (Rc.kl v l) (Rc.vl v l) (Rc.xp v l : Int) := by
  unfold Rc.check Rc.rec
  simp only
  rw [Rc.sub_length _ _ _ (by have := h.2; omega), Rc.sub_length _ _ _ (by have := h.2; omega)]
set_option maxHeartbeats 1000000 in
theorem decode_bad (v seq off : Int) (A : Option Addr) (B n c : Nat) (l : List Nat) (w : World) (hB : B ≤ w.heap.size) (hA : A = none → c = 0 ∧ n = 0) (hnc : n ≤ c) (hc : c ≤ 9223372036854775807) (hl : Hid (l.length = n)) (hb : Hid (Bs w B A l)) (hf : Fits v l) (hbad : Rc.check v (Rc.rec v l) ≠ 0 ∨ ¬ Rc.place seq off) :
    Calls Tryd.prog 8 #[.int .i64 v, .int .i64 seq, .int .i64 off, .slice A n c] w (NoRec w) := by
  have HP : Hid (∀ o : Obj, Calls Tryd.prog 19 #[.int .i64 v, .slice A n c] (w.alloc o) (Parsed (w.alloc o) B v l)) := fun o => by
    unfold Fits at hf
    rw [hl.out] at hf
    exact parse_ok v A B n c l _ (Nat.le_trans hB ((Below.refl _ w).alloc (Nat.le_refl _) o).size) hA hnc hc hl (hb.out.below ((Below.refl _ w).alloc (Nat.le_refl _) o) hB) hf.1 hf.2
  have HE : Hid (∀ (A1 : Option Addr) (c1 : Nat) (A2 : Option Addr) (c2 : Nat) (W : World), ∃ q : Int, (q != 0) = true ∧ Calls Tryd.prog 20 #[.int .i64 v, .int .i64 seq, .int .i64 off, .agg #[.int .i64 (Rc.kd v l : Int), .slice A1 (Rc.kl v l) c1, .slice A2 (Rc.vl v l) c2, .int .i64 (Rc.xp v l : Int)]] W fun e w' => e = .returned (.tuple #[.slice none 0 0, .int .i64 q]) ∧ Below W.heap.size W w') := fun A1 c1 A2 c2 W => by
    rw [rec_check v l hf] at hbad
    refine ⟨_, ?_, encode_bad v seq off (Rc.kd v l : Int) (Rc.xp v l : Int) A1 (Rc.kl v l) c1 A2 (Rc.vl v l) c2 W hbad⟩
    rw [bne_iff_ne]
    split
    · assumption
    · decide
  go_enter Tryd.func8, Tryd.ntmps8
  go_wp2_with fail
  refine (HP.out _).mono ?_
  rintro e w1 ⟨A1, c1, A2, c2, rfl, hs1, hs2, hw1, hw2, hb1⟩
  obtain ⟨q, hq, HEQ⟩ := HE.out A1 c1 A2 c2 (w1.alloc (.cells #[.int .i64 (Rc.kd v l : Int), .slice A1 (Rc.kl v l) c1, .slice A2 (Rc.vl v l) c2, .int .i64 (Rc.xp v l : Int)] 26))
  have HEQ := Lib.hid HEQ
  obtain ⟨hr, hbb, -⟩ := after_head hb1 (.cells #[.int .i64 (Rc.kd v l : Int), .slice A1 (Rc.kl v l) c1, .slice A2 (Rc.vl v l) c2, .int .i64 (Rc.xp v l : Int)] 26)
  have HR := Lib.hid hr
  have HBB := Lib.hid hbb
  clear hr hbb hb1 hs1 hs2 hw1 hw2
  go_wp2_with fail
  refine HEQ.out.mono ?_
  rintro e w2 ⟨rfl, hb2⟩
  have HR2 : Hid (w2.heap[w.heap.size]? = some (.cells #[.int .i64 0, .slice none 0 0, .slice none 0 0, .int .i64 0] 26 (0, 0))) := (hb2.block _ (Array.getElem?_eq_some_iff.1 HR.out).1).trans HR.out
  have HB2 : Hid (Below w.heap.size w w2) := HBB.out.trans (hb2.mono HBB.out.size)
  obtain ⟨d0, d1, d2, d3⟩ := four_cells HR2.out
  obtain ⟨f0, f1, f2, f3⟩ := four_frozen HR2.out
  clear hb2
  go_wp2_with fail
  (try simp only [Exit.inBlock, Exit.then])
  refine bodyPost_ret (results_row3 rfl _ _ w.heap.size _ _ (0, 0) _ rfl (stored HR2.out) Tryd.underlying26 rfl (by kernel_rfl)) rfl ?_
  exact ⟨rfl, HB2.out.trans (below_of_grown (stored_grown _ _ _ _ _ _) (Nat.le_refl _) HB2.out.size)⟩
theorem own_bsin {w : World} {base : Nat} {A : Option Addr} {l : List Nat} (h : Bs w w.heap.size A l) (ho : A = none ∨ ∃ g, A = some ⟨g, 0, none⟩ ∧ base ≤ g ∧ g < w.heap.size) : BsIn w base w.heap.size A l := fun k hk => by
  obtain ⟨a1, ad, rfl, a3, a4⟩ := h k hk
  refine ⟨a1, ad, rfl, ?_, a3, a4⟩
  rcases ho with e | ⟨g, e, h2, _⟩
  · cases e
  · injection e with e; subst e; exact h2
/-- bytes.Clone in a world that has the memory of another. -/
theorem clone_at (w2 : World) (base : Nat) (hbase : base ≤ w2.heap.size) (A : Option Addr) (B n c : Nat) (l : List Nat) (hs : SlIs A n c) (hl : l.length = n) (hn : n ≤ 140737488355328) (hb : Bs w2 B A l) (hlt : ∀ x ∈ l, x < 256) (W : World) (e1 : W.heap = w2.heap) (e2 : W.os = w2.os) (e3 : W.tape = w2.tape) (e4 : W.output = w2.output) :
    Calls Tryd.prog 22 #[.slice A n c] W fun e w5 => ∃ A5 c5, e = .returned (.slice A5 n c5) ∧ SlIs A5 n c5 ∧ BsIn w5 base w5.heap.size A5 l ∧ Below w2.heap.size w2 w5 := by
  refine (clone_any A B n c l W hs.1 hl hn (hb.heap e1)).mono ?_
  rintro e w5 ⟨v, rfl, hown, hb5⟩
  obtain ⟨A5, c5, rfl, hbs, hl5, hn5, hm5, ho5⟩ := own_bytes hown hlt
  have hsz : W.heap.size = w2.heap.size := by rw [e1]
  refine ⟨A5, c5, rfl, sl_own hn5 hm5 ho5, own_bsin hbs ?_, hb5.os.trans e2, hb5.tape.trans e3, hb5.output.trans e4, by have := hb5.size; omega, fun b hlt => ?_⟩
  · rcases ho5 with ⟨h, _⟩ | ⟨g, h1, h2, h3⟩
    · exact .inl h
    · exact .inr ⟨g, h1, by omega, h3⟩
  · rw [hb5.block b (by omega), e1]
set_option maxHeartbeats 1000000 in
theorem decode_other (v seq off : Int) (A : Option Addr) (B n c : Nat) (l : List Nat) (w : World) (hB : B ≤ w.heap.size) (hsq : seq ≤ 9223372036854775807) (hA : A = none → c = 0 ∧ n = 0) (hnc : n ≤ c) (hc : c ≤ 9223372036854775807) (hl : Hid (l.length = n)) (hb : Hid (Bs w B A l)) (ht : Hid (TabW w)) (hz : 0 < w.heap.size) (hf : Fits v l) (hck : Rc.check v (Rc.rec v l) = 0) (hpl : Rc.place seq off)
    (hp : Rc.enc v seq off (Rc.rec v l) ≠ l.take (Rc.len (Rc.rec v l))) :
    Calls Tryd.prog 8 #[.int .i64 v, .int .i64 seq, .int .i64 off, .slice A n c] w (NoRec w) := by
  have HP : Hid (∀ o : Obj, Calls Tryd.prog 19 #[.int .i64 v, .slice A n c] (w.alloc o) (Parsed (w.alloc o) B v l)) := fun o => by
    unfold Fits at hf
    rw [hl.out] at hf
    exact parse_ok v A B n c l _ (Nat.le_trans hB ((Below.refl _ w).alloc (Nat.le_refl _) o).size) hA hnc hc hl (hb.out.below ((Below.refl _ w).alloc (Nat.le_refl _) o) hB) hf.1 hf.2
  have HE : Hid (∀ (A1 : Option Addr) (c1 : Nat) (A2 : Option Addr) (c2 : Nat) (W : World), Below w.heap.size w W → SlIs A1 (Rc.kl v l) c1 → SlIs A2 (Rc.vl v l) c2 → Bs W B A1 (Rc.sub l 16 (Rc.kl v l)) → Bs W B A2 (Rc.sub l (16 + Rc.kl v l) (Rc.vl v l)) →
      Calls Tryd.prog 20 #[.int .i64 v, .int .i64 seq, .int .i64 off, .agg #[.int .i64 (Rc.kd v l : Int), .slice A1 (Rc.kl v l) c1, .slice A2 (Rc.vl v l) c2, .int .i64 (Rc.xp v l : Int)]] W (Encoded W (Rc.enc v seq off (Rc.rec v l)))) := fun A1 c1 A2 c2 W hW h1 h2 h3 h4 =>
    encode_ok v seq off (Rc.kd v l : Int) (Rc.xp v l : Int) _ _ A1 B (Rc.kl v l) c1 A2 (Rc.vl v l) c2 W hck hpl (Nat.le_trans hB hW.size) hsq (Lib.hid ⟨h1, Rc.sub_length _ _ _ (by have := hf.2; omega), h3⟩) (Lib.hid ⟨h2, Rc.sub_length _ _ _ (by have := hf.2; omega), h4⟩) (ht.out.below hW hz) (Nat.lt_of_lt_of_le hz hW.size)
  have HLEN := Lib.hid (Rc.enc_length v seq off (Rc.rec v l))
  have HLT : Hid (∀ x ∈ Rc.enc v seq off (Rc.rec v l), x < 256) := Rc.enc_lt _ _ _ _ (sub_lt hb.out.lt _ _) (sub_lt hb.out.lt _ _)
  have HKL : Hid ((Rc.sub l 16 (Rc.kl v l)).length = Rc.kl v l ∧ (Rc.sub l (16 + Rc.kl v l) (Rc.vl v l)).length = Rc.vl v l) := ⟨Rc.sub_length _ _ _ (by have := hf.2; omega), Rc.sub_length _ _ _ (by have := hf.2; omega)⟩
  have HSM : Hid (Rc.kl v l ≤ 255 ∧ Rc.vl v l ≤ 65536) := by
    have h := Rc.chk_ok hck
    unfold Rc.rec at h
    simp only at h
    rw [HKL.out.1, HKL.out.2] at h
    exact ⟨h.2.2.1, h.2.2.2.1⟩
  have HN : Hid ((Rc.enc v seq off (Rc.rec v l)).length = 16 + Rc.kl v l + Rc.vl v l) := by
    show _ = _
    rw [HLEN.out]
    unfold Rc.len Rc.rec
    simp only
    rw [HKL.out.1, HKL.out.2]
  have HKLT : Hid (∀ x ∈ Rc.sub l 16 (Rc.kl v l), x < 256) := sub_lt hb.out.lt _ _
  have HVLT : Hid (∀ x ∈ Rc.sub l (16 + Rc.kl v l) (Rc.vl v l), x < 256) := sub_lt hb.out.lt _ _
  generalize Rc.enc v seq off (Rc.rec v l) = en at HE HLEN HLT HN hp
  have HPFX := Lib.hid hp
  clear hp hck hpl hf
  unfold Parsed at HP
  generalize Rc.sub l 16 (Rc.kl v l) = key at *
  generalize Rc.sub l (16 + Rc.kl v l) (Rc.vl v l) = val at *
  generalize Rc.kl v l = kl at *
  generalize Rc.vl v l = vl at *
  generalize Rc.kd v l = kd at *
  generalize Rc.xp v l = xp at *
  go_enter Tryd.func8, Tryd.ntmps8
  go_wp2_with fail
  refine (HP.out _).mono ?_
  rintro e w1 ⟨A1, c1, A2, c2, rfl, hs1, hs2, hw1, hw2, hb1⟩
  have HW1 : Hid (Below w1.heap.size w1 (w1.alloc (.cells #[.int .i64 (kd : Int), .slice A1 kl c1, .slice A2 vl c2, .int .i64 (xp : Int)] 26))) := (Below.refl _ _).alloc (Nat.le_refl _) _
  obtain ⟨hr, hbb, hlt1⟩ := after_head hb1 (.cells #[.int .i64 (kd : Int), .slice A1 kl c1, .slice A2 vl c2, .int .i64 (xp : Int)] 26)
  have hB1 : B ≤ w1.heap.size := Nat.le_trans hB (Nat.le_of_lt hlt1)
  have HEQ := Lib.hid (HE.out A1 c1 A2 c2 _ hbb hs1 hs2 (hw1.below HW1.out hB1) (hw2.below HW1.out hB1))
  have HS1 : Hid (SlIs A1 kl c1 ∧ Bs w1 B A1 key) := ⟨hs1, hw1⟩
  have HS2 : Hid (SlIs A2 vl c2 ∧ Bs w1 B A2 val) := ⟨hs2, hw2⟩
  have HR := Lib.hid hr
  have HQ : Hid ((w1.alloc (.cells #[.int .i64 (kd : Int), .slice A1 kl c1, .slice A2 vl c2, .int .i64 (xp : Int)] 26)).heap[w1.heap.size]? = some (.cells #[.int .i64 (kd : Int), .slice A1 kl c1, .slice A2 vl c2, .int .i64 (xp : Int)] 26 (0, 0))) := heap_alloc_new _ _
  have HBB := Lib.hid hbb
  have HLT1 := Lib.hid hlt1
  have HB1 := Lib.hid hB1
  clear hr hbb hb1 hs1 hs2 hw1 hw2 hlt1 hB1
  go_wp2_with fail
  refine HEQ.out.mono ?_
  rintro e w2 ⟨v2, rfl, hown2, hb2⟩
  obtain ⟨A3, c3, rfl, hbs3, hl3, hn3, hm3, ho3⟩ := own_bytes hown2 HLT.out
  have HS3 : Hid (SlIs A3 en.length c3 ∧ Bs w2 w2.heap.size A3 en) := ⟨sl_own hn3 hm3 ho3, hbs3⟩
  have HR2 : Hid (w2.heap[w.heap.size]? = some (.cells #[.int .i64 0, .slice none 0 0, .slice none 0 0, .int .i64 0] 26 (0, 0))) := (hb2.block _ (Array.getElem?_eq_some_iff.1 HR.out).1).trans HR.out
  have HQ2 : Hid (w2.heap[w1.heap.size]? = some (.cells #[.int .i64 (kd : Int), .slice A1 kl c1, .slice A2 vl c2, .int .i64 (xp : Int)] 26 (0, 0))) := (hb2.block _ (Array.getElem?_eq_some_iff.1 HQ.out).1).trans HQ.out
  have HB2 : Hid (Below w.heap.size w w2) := HBB.out.trans (hb2.mono HBB.out.size)
  have HX2 : Hid (Below w1.heap.size w1 w2) := HW1.out.trans (hb2.mono HW1.out.size)
  clear hb2 hbs3 hl3 hn3 hm3 ho3 hown2
  have HPX : Hid (∀ W, W.heap = w2.heap → Calls Tryd.prog 21 #[.slice A n c, .slice A3 en.length c3] W fun e w' => e = .returned (.bool false) ∧ W = w') := fun W e => by
    have h := hasprefix_any A A3 B w2.heap.size n c en.length c3 l en W hA hnc (fun e => (HS3.out.1.1 e).2) hl.out rfl (Lib.hid ((hb.out.below HB2.out hB).heap e)) (Lib.hid (HS3.out.2.heap e))
    refine h.mono ?_
    rintro e' w' ⟨rfl, rfl⟩
    exact ⟨by rw [decide_eq_false (by rw [HLEN.out]; exact HPFX.out)], rfl⟩
  obtain ⟨d0, d1, d2, d3⟩ := four_cells HR2.out
  obtain ⟨f0, f1, f2, f3⟩ := four_frozen HR2.out
  go_wp2_with fail
  refine (HPX.out _ (by rfl)).mono ?_
  rintro e w3 ⟨rfl, rfl⟩
  go_wp2_with fail
  (try simp only [Exit.inBlock, Exit.then])
  refine bodyPost_ret (results_row3 rfl _ _ w.heap.size _ _ (0, 0) _ rfl (stored HR2.out) Tryd.underlying26 rfl (by kernel_rfl)) rfl ?_
  exact ⟨rfl, HB2.out.trans (below_of_grown (stored_grown _ _ _ _ _ _) (Nat.le_refl _) HB2.out.size)⟩
/-- What a decoded record leaves: its key and its value in rows of their own. -/
def GotRec (w : World) (v : Int) (l : List Nat) (e : Ending) (w' : World) : Prop :=
  ∃ A1 c1 A2 c2, e = .returned (.tuple #[.agg #[.int .i64 (Rc.kd v l : Int), .slice A1 (Rc.kl v l) c1, .slice A2 (Rc.vl v l) c2, .int .i64 (Rc.xp v l : Int)], .int .i64 ((16 + Rc.kl v l + Rc.vl v l : Nat) : Int), .bool true]) ∧ SlIs A1 (Rc.kl v l) c1 ∧ SlIs A2 (Rc.vl v l) c2 ∧
    BsIn w' w.heap.size w'.heap.size A1 (Rc.sub l 16 (Rc.kl v l)) ∧ BsIn w' w.heap.size w'.heap.size A2 (Rc.sub l (16 + Rc.kl v l) (Rc.vl v l)) ∧ Below w.heap.size w w'
set_option maxHeartbeats 1000000 in
theorem decode_ok (v seq off : Int) (A : Option Addr) (B n c : Nat) (l : List Nat) (w : World) (hB : B ≤ w.heap.size) (hsq : seq ≤ 9223372036854775807) (hA : A = none → c = 0 ∧ n = 0) (hnc : n ≤ c) (hc : c ≤ 9223372036854775807) (hl : Hid (l.length = n)) (hb : Hid (Bs w B A l)) (ht : Hid (TabW w)) (hz : 0 < w.heap.size) (hf : Fits v l) (hck : Rc.check v (Rc.rec v l) = 0) (hpl : Rc.place seq off)
    (hp : Rc.enc v seq off (Rc.rec v l) = l.take (Rc.len (Rc.rec v l))) :
    Calls Tryd.prog 8 #[.int .i64 v, .int .i64 seq, .int .i64 off, .slice A n c] w (GotRec w v l) := by
  have HP : Hid (∀ o : Obj, Calls Tryd.prog 19 #[.int .i64 v, .slice A n c] (w.alloc o) (Parsed (w.alloc o) B v l)) := fun o => by
    unfold Fits at hf
    rw [hl.out] at hf
    exact parse_ok v A B n c l _ (Nat.le_trans hB ((Below.refl _ w).alloc (Nat.le_refl _) o).size) hA hnc hc hl (hb.out.below ((Below.refl _ w).alloc (Nat.le_refl _) o) hB) hf.1 hf.2
  have HE : Hid (∀ (A1 : Option Addr) (c1 : Nat) (A2 : Option Addr) (c2 : Nat) (W : World), Below w.heap.size w W → SlIs A1 (Rc.kl v l) c1 → SlIs A2 (Rc.vl v l) c2 → Bs W B A1 (Rc.sub l 16 (Rc.kl v l)) → Bs W B A2 (Rc.sub l (16 + Rc.kl v l) (Rc.vl v l)) →
      Calls Tryd.prog 20 #[.int .i64 v, .int .i64 seq, .int .i64 off, .agg #[.int .i64 (Rc.kd v l : Int), .slice A1 (Rc.kl v l) c1, .slice A2 (Rc.vl v l) c2, .int .i64 (Rc.xp v l : Int)]] W (Encoded W (Rc.enc v seq off (Rc.rec v l)))) := fun A1 c1 A2 c2 W hW h1 h2 h3 h4 =>
    encode_ok v seq off (Rc.kd v l : Int) (Rc.xp v l : Int) _ _ A1 B (Rc.kl v l) c1 A2 (Rc.vl v l) c2 W hck hpl (Nat.le_trans hB hW.size) hsq (Lib.hid ⟨h1, Rc.sub_length _ _ _ (by have := hf.2; omega), h3⟩) (Lib.hid ⟨h2, Rc.sub_length _ _ _ (by have := hf.2; omega), h4⟩) (ht.out.below hW hz) (Nat.lt_of_lt_of_le hz hW.size)
  have HLEN := Lib.hid (Rc.enc_length v seq off (Rc.rec v l))
  have HLT : Hid (∀ x ∈ Rc.enc v seq off (Rc.rec v l), x < 256) := Rc.enc_lt _ _ _ _ (sub_lt hb.out.lt _ _) (sub_lt hb.out.lt _ _)
  have HKL : Hid ((Rc.sub l 16 (Rc.kl v l)).length = Rc.kl v l ∧ (Rc.sub l (16 + Rc.kl v l) (Rc.vl v l)).length = Rc.vl v l) := ⟨Rc.sub_length _ _ _ (by have := hf.2; omega), Rc.sub_length _ _ _ (by have := hf.2; omega)⟩
  have HSM : Hid (Rc.kl v l ≤ 255 ∧ Rc.vl v l ≤ 65536) := by
    have h := Rc.chk_ok hck
    unfold Rc.rec at h
    simp only at h
    rw [HKL.out.1, HKL.out.2] at h
    exact ⟨h.2.2.1, h.2.2.2.1⟩
  have HN : Hid ((Rc.enc v seq off (Rc.rec v l)).length = 16 + Rc.kl v l + Rc.vl v l) := by
    show _ = _
    rw [HLEN.out]
    unfold Rc.len Rc.rec
    simp only
    rw [HKL.out.1, HKL.out.2]
  have HKLT : Hid (∀ x ∈ Rc.sub l 16 (Rc.kl v l), x < 256) := sub_lt hb.out.lt _ _
  have HVLT : Hid (∀ x ∈ Rc.sub l (16 + Rc.kl v l) (Rc.vl v l), x < 256) := sub_lt hb.out.lt _ _
  generalize Rc.enc v seq off (Rc.rec v l) = en at HE HLEN HLT HN hp
  have HPFX := Lib.hid hp
  clear hp hck hpl hf
  unfold Parsed at HP
  unfold GotRec
  generalize Rc.sub l 16 (Rc.kl v l) = key at *
  generalize Rc.sub l (16 + Rc.kl v l) (Rc.vl v l) = val at *
  generalize Rc.kl v l = kl at *
  generalize Rc.vl v l = vl at *
  generalize Rc.kd v l = kd at *
  generalize Rc.xp v l = xp at *
  go_enter Tryd.func8, Tryd.ntmps8
  go_wp2_with fail
  refine (HP.out _).mono ?_
  rintro e w1 ⟨A1, c1, A2, c2, rfl, hs1, hs2, hw1, hw2, hb1⟩
  have HW1 : Hid (Below w1.heap.size w1 (w1.alloc (.cells #[.int .i64 (kd : Int), .slice A1 kl c1, .slice A2 vl c2, .int .i64 (xp : Int)] 26))) := (Below.refl _ _).alloc (Nat.le_refl _) _
  obtain ⟨hr, hbb, hlt1⟩ := after_head hb1 (.cells #[.int .i64 (kd : Int), .slice A1 kl c1, .slice A2 vl c2, .int .i64 (xp : Int)] 26)
  have hB1 : B ≤ w1.heap.size := Nat.le_trans hB (Nat.le_of_lt hlt1)
  have HEQ := Lib.hid (HE.out A1 c1 A2 c2 _ hbb hs1 hs2 (hw1.below HW1.out hB1) (hw2.below HW1.out hB1))
  have HS1 : Hid (SlIs A1 kl c1 ∧ Bs w1 B A1 key) := ⟨hs1, hw1⟩
  have HS2 : Hid (SlIs A2 vl c2 ∧ Bs w1 B A2 val) := ⟨hs2, hw2⟩
  have HR := Lib.hid hr
  have HQ : Hid ((w1.alloc (.cells #[.int .i64 (kd : Int), .slice A1 kl c1, .slice A2 vl c2, .int .i64 (xp : Int)] 26)).heap[w1.heap.size]? = some (.cells #[.int .i64 (kd : Int), .slice A1 kl c1, .slice A2 vl c2, .int .i64 (xp : Int)] 26 (0, 0))) := heap_alloc_new _ _
  have HBB := Lib.hid hbb
  have HLT1 := Lib.hid hlt1
  have HB1 := Lib.hid hB1
  clear hr hbb hb1 hs1 hs2 hw1 hw2 hlt1 hB1
  go_wp2_with fail
  refine HEQ.out.mono ?_
  rintro e w2 ⟨v2, rfl, hown2, hb2⟩
  obtain ⟨A3, c3, rfl, hbs3, hl3, hn3, hm3, ho3⟩ := own_bytes hown2 HLT.out
  have HS3 : Hid (SlIs A3 en.length c3 ∧ Bs w2 w2.heap.size A3 en) := ⟨sl_own hn3 hm3 ho3, hbs3⟩
  have HR2 : Hid (w2.heap[w.heap.size]? = some (.cells #[.int .i64 0, .slice none 0 0, .slice none 0 0, .int .i64 0] 26 (0, 0))) := (hb2.block _ (Array.getElem?_eq_some_iff.1 HR.out).1).trans HR.out
  have HQ2 : Hid (w2.heap[w1.heap.size]? = some (.cells #[.int .i64 (kd : Int), .slice A1 kl c1, .slice A2 vl c2, .int .i64 (xp : Int)] 26 (0, 0))) := (hb2.block _ (Array.getElem?_eq_some_iff.1 HQ.out).1).trans HQ.out
  have HB2 : Hid (Below w.heap.size w w2) := HBB.out.trans (hb2.mono HBB.out.size)
  have HX2 : Hid (Below w1.heap.size w1 w2) := HW1.out.trans (hb2.mono HW1.out.size)
  clear hb2 hbs3 hl3 hn3 hm3 ho3 hown2
  have HPX : Hid (∀ W, W.heap = w2.heap → Calls Tryd.prog 21 #[.slice A n c, .slice A3 en.length c3] W fun e w' => e = .returned (.bool true) ∧ W = w') := fun W e => by
    have h := hasprefix_any A A3 B w2.heap.size n c en.length c3 l en W hA hnc (fun e => (HS3.out.1.1 e).2) hl.out rfl (Lib.hid ((hb.out.below HB2.out hB).heap e)) (Lib.hid (HS3.out.2.heap e))
    refine h.mono ?_
    rintro e' w' ⟨rfl, rfl⟩
    exact ⟨by rw [decide_eq_true (by rw [HLEN.out]; exact HPFX.out)], rfl⟩
  go_wp2_with fail
  refine (HPX.out _ (by rfl)).mono ?_
  rintro e w3 ⟨rfl, rfl⟩
  have HK2 : Hid (Bs w2 B A1 key ∧ Bs w2 B A2 val) := ⟨HS1.out.2.below HX2.out HB1.out, HS2.out.2.below HX2.out HB1.out⟩
  have HZ : Hid (w.heap.size < w2.heap.size ∧ w1.heap.size < w2.heap.size) := ⟨(Array.getElem?_eq_some_iff.1 HR2.out).1, (Array.getElem?_eq_some_iff.1 HQ2.out).1⟩
  have CL1 := Lib.hid (clone_at w2 w2.heap.size (Nat.le_refl _) A1 B kl c1 key HS1.out.1 HKL.out.1 (by have := HSM.out; omega) HK2.out.1 HKLT.out)
  have CL2 : Hid (∀ w5, Below w2.heap.size w2 w5 → ∀ (W : World), W.heap = w5.heap → W.os = w5.os → W.tape = w5.tape → W.output = w5.output → Calls Tryd.prog 22 #[.slice A2 vl c2] W fun e w6 => ∃ A6 c6, e = .returned (.slice A6 vl c6) ∧ SlIs A6 vl c6 ∧ BsIn w6 w2.heap.size w6.heap.size A6 val ∧ Below w5.heap.size w5 w6) := fun w5 hb =>
    clone_at w5 w2.heap.size hb.size A2 B vl c2 val HS2.out.1 HKL.out.2 (by have := HSM.out; omega) (HK2.out.2.below hb (Nat.le_trans hB HB2.out.size)) HVLT.out
  obtain ⟨d0, d1, d2, d3⟩ := four_cells HQ2.out
  go_wp2_with fail
  go_region_with (first
    | (go_at_call_of 22 (Value.slice A1 kl c1); refine (CL1.out _ (by rfl) (by rfl) (by rfl) (by rfl)).mono ?_; rintro e w5 ⟨A5, c5, rfl, hs5, hbs5, hb5⟩; have HS5 := Lib.hid (And.intro hs5 hbs5); have HB5 := Lib.hid hb5; obtain ⟨m0, m1, m2, m3⟩ := four_cells ((hb5.block _ HZ.out.2).trans HQ2.out); clear hs5 hbs5 hb5)
    | (go_at_call_of 22 (Value.slice A2 vl c2); refine (CL2.out w5 HB5.out _ (by rfl) (by rfl) (by rfl) (by rfl)).mono ?_; rintro e w6 ⟨A6, c6, rfl, hs6, hbs6, hb6⟩; have HS6 := Lib.hid (And.intro hs6 hbs6); have HB6 : Hid (Below w2.heap.size w2 w6) := HB5.out.trans (hb6.mono HB5.out.size); have HB56 := Lib.hid hb6; obtain ⟨n0, n1, n2, n3⟩ := four_cells ((HB6.out.block _ HZ.out.2).trans HQ2.out); obtain ⟨k0, k1, k2, k3⟩ := four_frozen ((HB6.out.block _ HZ.out.2).trans HQ2.out); clear hs6 hbs6 hb6))
  all_goals
    have hq6 := (HB6.out.block _ HZ.out.2).trans HQ2.out
    have hr6 := (HB6.out.block _ HZ.out.1).trans HR2.out
    have hg7 : w6.grownBy ((w6.setCell ⟨w1.heap.size, 1, none⟩ (.slice A5 kl c5)).setCell ⟨w1.heap.size, 2, none⟩ (.slice A6 vl c6)) (some w1.heap.size) := grown_trans' (grown_set _ _ _ _) (grown_set _ _ _ _)
    have hne : w.heap.size < w1.heap.size := HLT1.out
    have HQ7 : Hid (((w6.setCell ⟨w1.heap.size, 1, none⟩ (.slice A5 kl c5)).setCell ⟨w1.heap.size, 2, none⟩ (.slice A6 vl c6)).heap[w1.heap.size]? = some (.cells #[.int .i64 (kd : Int), .slice A5 kl c5, .slice A6 vl c6, .int .i64 (xp : Int)] 26 (0, 0))) := by
      show _ = _
      simp [World.setCell, Array.getElem?_modify, hq6]
    have HR7 : Hid (((w6.setCell ⟨w1.heap.size, 1, none⟩ (.slice A5 kl c5)).setCell ⟨w1.heap.size, 2, none⟩ (.slice A6 vl c6)).heap[w.heap.size]? = some (.cells #[.int .i64 0, .slice none 0 0, .slice none 0 0, .int .i64 0] 26 (0, 0))) :=
      (hg7.block _ (Array.getElem?_eq_some_iff.1 hr6).1 (fun e => by injection e with e; omega)).trans hr6
    have HB7 : Hid (Below w.heap.size w ((w6.setCell ⟨w1.heap.size, 1, none⟩ (.slice A5 kl c5)).setCell ⟨w1.heap.size, 2, none⟩ (.slice A6 vl c6))) := (HB2.out.trans (HB6.out.mono HB2.out.size)).trans (below_of_grown hg7 (Nat.le_of_lt hne) (HB2.out.trans (HB6.out.mono HB2.out.size)).size)
    have HS7 : Hid (BsIn ((w6.setCell ⟨w1.heap.size, 1, none⟩ (.slice A5 kl c5)).setCell ⟨w1.heap.size, 2, none⟩ (.slice A6 vl c6)) w2.heap.size ((w6.setCell ⟨w1.heap.size, 1, none⟩ (.slice A5 kl c5)).setCell ⟨w1.heap.size, 2, none⟩ (.slice A6 vl c6)).heap.size A5 key ∧
        BsIn ((w6.setCell ⟨w1.heap.size, 1, none⟩ (.slice A5 kl c5)).setCell ⟨w1.heap.size, 2, none⟩ (.slice A6 vl c6)) w2.heap.size ((w6.setCell ⟨w1.heap.size, 1, none⟩ (.slice A5 kl c5)).setCell ⟨w1.heap.size, 2, none⟩ (.slice A6 vl c6)).heap.size A6 val) :=
      ⟨(((HS5.out.2.keep fun b _ h => HB56.out.block b h).wider (Nat.le_refl _) HB56.out.size).keep fun b h1 h2 => hg7.block b h2 (fun e => by injection e with e; have := HZ.out.2; omega)).wider (Nat.le_refl _) hg7.size, (HS6.out.2.keep fun b h1 h2 => hg7.block b h2 (fun e => by injection e with e; have := HZ.out.2; omega)).wider (Nat.le_refl _) hg7.size⟩
    clear hq6 hr6 hg7 hne m0 m1 m2 m3 n0 n1 n2 n3 k0 k1 k2 k3
    generalize (w6.setCell ⟨w1.heap.size, 1, none⟩ (.slice A5 kl c5)).setCell ⟨w1.heap.size, 2, none⟩ (.slice A6 vl c6) = w7 at *
    obtain ⟨m0, m1, m2, m3⟩ := four_cells HQ7.out
    obtain ⟨n0, n1, n2, n3⟩ := four_cells HR7.out
    obtain ⟨k0, k1, k2, k3⟩ := four_frozen HR7.out
    go_wp2_with fail
    (try simp only [Exit.inBlock, Exit.then])
    refine bodyPost_ret (results_row3 rfl _ _ w.heap.size _ _ (0, 0) _ rfl (stored HR7.out) Tryd.underlying26 rfl (by kernel_rfl)) rfl ?_
    have HG8 := stored_grown w7 w.heap.size (.int .i64 (kd : Int)) (.slice A5 kl c5) (.slice A6 vl c6) (.int .i64 (xp : Int))
    have HB8 := HB7.out.trans (below_of_grown HG8 (Nat.le_refl _) HB7.out.size)
    refine ⟨A5, c5, A6, c6, ?_, HS5.out.1, HS6.out.1, ((HS7.out.1.keep fun b h1 h2 => HG8.block b h2 (fun e => by injection e with e; have := HZ.out.1; omega)).wider (Nat.le_of_lt HZ.out.1) HG8.size), ((HS7.out.2.keep fun b h1 h2 => HG8.block b h2 (fun e => by injection e with e; have := HZ.out.1; omega)).wider (Nat.le_of_lt HZ.out.1) HG8.size), HB8⟩
    rw [← HN.out]
    rfl
end Go.Proofs.YtciaiaacboodeaaDoor
