/-
  The law PackerRecords.
-/
import Derived.Test.YtjmhnbohojdodaaDoorPkLawTakes
import Derived.Test.YtjmhnbohojdodaaDoorHold
import Derived.Test.YtjmhnbohojdodaaDoorRecDecodeLaw
import Derived.Deep.DeepCutAuto
import Derived.Deep.CutBlock
set_option maxRecDepth 100000
namespace Go.Proofs.YtjmhnbohojdodaaDoor
open Go.RowKit
def offs (ds : List (Nat × Rd)) : List Int := ds.map fun d => ((d.1 : Nat) : Int)
def lens (ds : List (Nat × Rd)) : List Int := ds.map fun d => ((Rc.len d.2.r : Nat) : Int)
def recs (ds : List (Nat × Rd)) : List Rd := ds.map (·.2)
theorem offs_snoc (ds : List (Nat × Rd)) (n : Nat) (r : Rd) : offs (ds ++ [(n, r)]) = offs ds ++ [((n : Nat) : Int)] := by unfold offs; rw [List.map_append]; rfl
theorem lens_snoc (ds : List (Nat × Rd)) (n : Nat) (r : Rd) : lens (ds ++ [(n, r)]) = lens ds ++ [((Rc.len r.r : Nat) : Int)] := by unfold lens; rw [List.map_append]; rfl
theorem recs_snoc (ds : List (Nat × Rd)) (n : Nat) (r : Rd) : recs (ds ++ [(n, r)]) = recs ds ++ [r] := by unfold recs; rw [List.map_append]; rfl
theorem info_rec : (Tryd.prog.info? 38).map (fun i => (i.zero, i.size, i.bytes)) = some (some (.agg #[.int .i64 0, .slice none 0 0, .slice none 0 0, .int .i64 0]), 4, 64) := by kernel_rfl
theorem op_append_at {α : Type} {Sh : Shape α} {P : Program} {w : World} {S : Nat → Prop} {o : Oper} {a : Act} {K : Act → World → Prop} {Q : Exit → Act → World → Prop} {e : TypeId} {zv : Value} {bytes : Nat} (d : Tmp) (hd : o.dst = some d) (s x : Operand) (t : TypeId) (ho : o.op = .call { callee := .builtin .append, args := #[s, x], argTypes := #[t, t] })
    (ht : P.underlying t = some (.slice e)) (hi : (P.info? e).map (fun i => (i.zero, i.size, i.bytes)) = some (some zv, Sh.m, bytes)) (hzs : zv.cells.size = Sh.m)
    (v : Value) (n : Nat) (l : List α) (hs : a.eval s = v) (hown : SRow S e Sh.m w v n (Sh.flat l)) (g c : Nat) (p : α) (hx : a.eval x = .slice (some ⟨g, 0, none⟩) 1 c) (hg : w.heap[g]? = some (.cells (Sh.cs p).toArray e (0, 0))) (h63 : n ≤ 1000000) (hbytes : (n + 1) * bytes ≤ 140737488355328)
    (h : ∀ v' w', SRow (Grow S w) e Sh.m w' v' (n + 1) (Sh.flat (l ++ [p])) → Kept S w w' → K (a.put (some d) v') w') : o.wp P a w K Q :=
  op_append_one s x t ho ht hi hzs v n l hs hown g c p hx hg h63 hbytes fun v' w' h1 h2 => by rw [hd]; exact h v' w' h1 h2
theorem map_at {α β : Type} (f : α → β) (l : List α) (z : α) (y : β) {k : Nat} (hk : k < l.length) : (l.map f).getD k y = f (l.getD k z) := by
  rw [List.getD_eq_getElem?_getD, List.getElem?_map, List.getElem?_eq_getElem hk, List.getD_eq_getElem?_getD, List.getElem?_eq_getElem hk]; rfl
/-- What is known of a record that was put. -/
def DoneIs (w : World) (b : Int) (st : List Nat) (d : Nat × Rd) : Prop :=
  Rc.check b d.2.r = 0 ∧ Rc.place 7 (d.1 : Int) ∧ d.1 + Rc.len d.2.r ≤ st.length ∧ Rc.sub st d.1 (Rc.len d.2.r) = Rc.enc b 7 (d.1 : Int) d.2.r ∧ d.2.here w w.heap.size
def AllIs (w : World) (b : Int) (st : List Nat) (ds : List (Nat × Rd)) : Prop := ∀ d ∈ ds, DoneIs w b st d
theorem AllIs.more {w : World} {b : Int} {st : List Nat} {ds : List (Nat × Rd)} (h : AllIs w b st ds) (x : List Nat) : AllIs w b (st ++ x) ds := fun d hd => by
  obtain ⟨h1, h2, h3, h4, h5⟩ := h d hd
  exact ⟨h1, h2, by rw [List.length_append]; omega, by rw [Pk.sub_more _ _ _ _ h3]; exact h4, h5⟩
theorem AllIs.snoc {w : World} {b : Int} {st : List Nat} {ds : List (Nat × Rd)} {r : Rd} (h : AllIs w b st ds) (hc : Rc.check b r.r = 0) (hp : Rc.place 7 (st.length : Int)) (hr : r.here w w.heap.size) : AllIs w b (st ++ Rc.enc b 7 (st.length : Int) r.r) (ds ++ [(st.length, r)]) := fun d hd => by
  rcases List.mem_append.1 hd with hd | hd
  · exact (h.more _) d hd
  · rw [List.mem_singleton.1 hd]
    refine ⟨hc, hp, by rw [List.length_append, Rc.enc_length]; exact Nat.le_refl _, ?_, hr⟩
    have := Pk.sub_put st (Rc.enc b 7 (st.length : Int) r.r)
    rwa [Rc.enc_length] at this
theorem refdecode_enc (v seq off : Int) (r : Rc.Rec) (A : Option Addr) (n c : Nat) (w : World) (hck : Rc.check v r = 0) (hp : Rc.place seq off) (hsq : seq ≤ 9223372036854775807) (hs : SlIs A n c) (hn : n = Rc.len r) (hb : Bs w w.heap.size A (Rc.enc v seq off r)) :
    Calls Tryd.prog 26 #[.int .i64 v, .int .i64 seq, .int .i64 off, .slice A n c] w fun e w' => ∃ A1 c1 A2 c2, e = .returned (.tuple #[.agg #[.int .i64 r.kind, .slice A1 r.key.length c1, .slice A2 r.val.length c2, .int .i64 r.exp], .int .i64 (n : Int), .bool true]) ∧
      BsIn w' w.heap.size w'.heap.size A1 r.key ∧ BsIn w' w.heap.size w'.heap.size A2 r.val ∧ Below w.heap.size w w' := by
  have hsm := Rc.chk_ok hck
  obtain ⟨hgood, hrec⟩ := Rc.round v seq off r [] hck hp
  rw [List.append_nil] at hgood hrec
  obtain ⟨e1, e2, e3, e4⟩ := rec_parts hrec
  obtain ⟨k1, k2, -⟩ := Rc.back v seq off r [] hck
  rw [List.append_nil] at k1 k2
  have hl : (Rc.enc v seq off r).length = n := by rw [Rc.enc_length, hn]
  refine (refdecode_any v seq off A w.heap.size n c _ w (Nat.le_refl _) hsq hs hl hb (by rw [hn]; unfold Rc.len; omega)).mono ?_
  rintro e w' (⟨-, A1, c1, A2, c2, rfl, -, -, h1, h2, h3⟩ | ⟨h, -⟩)
  · rw [e2] at h1
    rw [e3] at h2
    refine ⟨A1, c1, A2, c2, ?_, h1, h2, h3⟩
    rw [e1, e4, k1, k2, hn]
    rfl
  · exact absurd hgood h
theorem cell_on {w w' : World} {ad : Addr} {v : Value} (hb : Below w.heap.size w w') (h : w.cell? ad = some v) : w'.cell? ad = some v := (hb.cell (World.block_lt_of_cell? _ _ h)).trans h
theorem ints_open {S : Nat → Prop} {w : World} {v : Value} {n : Nat} {l : List Int} (h : SRow S 3 1 w v n (intS.flat l)) : ∃ A c, v = .slice A n c ∧ ∀ k, k < n → ∃ ad, A = some ad ∧ ∀ W, Below w.heap.size w W → W.cell? (ad.add k) = some (.int .i64 (l.getD k 0)) := by
  have h1 : ARow intS 3 w 0 v n l := h.1
  have hn := h1.length
  obtain ⟨A, c, e, -, ha⟩ := h1.open_
  refine ⟨A, c, e, fun k hk => ?_⟩
  obtain ⟨ad, rfl⟩ := ha.some (k := k) (by omega)
  exact ⟨ad, rfl, fun W hW => cell_on hW (ints_at ha k (by omega))⟩
theorem recs_open {S : Nat → Prop} {w : World} {v : Value} {n : Nat} {l : List Rd} (h : SRow S 38 4 w v n (recS.flat l)) : ∃ A c, v = .slice A n c ∧ ∀ k, k < n → ∃ ad, A = some ad ∧ ∀ W, Below w.heap.size w W → ∀ r, l.getD k Rd0 = r → W.cell? (ad.add (k * 4)) = some (.int .i64 r.kd) ∧ W.cell? ⟨(ad.add (k * 4)).block, (ad.add (k * 4)).off + 1, none⟩ = some (.slice r.A1 r.n1 r.c1) ∧ W.cell? ⟨(ad.add (k * 4)).block, (ad.add (k * 4)).off + 2, none⟩ = some (.slice r.A2 r.n2 r.c2) ∧ W.cell? ⟨(ad.add (k * 4)).block, (ad.add (k * 4)).off + 3, none⟩ = some (.int .i64 r.x) := by
  have h1 : ARow recS 38 w 0 v n l := h.1
  have hn := h1.length
  obtain ⟨A, c, e, -, ha⟩ := h1.open_
  refine ⟨A, c, e, fun k hk => ?_⟩
  obtain ⟨ad, rfl⟩ := ha.some (k := k) (by omega)
  refine ⟨ad, rfl, fun W hW r hr => ?_⟩
  obtain ⟨e0, e1, e2, e3⟩ := recs_at ha k (by omega) r hr
  exact ⟨cell_on hW e0, cell_on hW e1, cell_on hW e2, cell_on hW e3⟩
theorem done_at {w : World} {b : Int} {st : List Nat} {ds : List (Nat × Rd)} (h : AllIs w b st ds) (j : Nat) (hj : j < ds.length) : ∃ (off : Nat) (r : Rd), (offs ds).getD j 0 = (off : Int) ∧ (lens ds).getD j 0 = ((Rc.len r.r : Nat) : Int) ∧ (recs ds).getD j Rd0 = r ∧ DoneIs w b st (off, r) := by
  obtain ⟨d, hd⟩ : ∃ d, ds.getD j (0, Rd0) = d := ⟨_, rfl⟩
  refine ⟨d.1, d.2, ?_, ?_, ?_, ?_⟩
  · unfold offs; rw [map_at _ ds (0, Rd0) 0 hj, hd]
  · unfold lens; rw [map_at _ ds (0, Rd0) 0 hj, hd]
  · unfold recs; rw [map_at _ ds (0, Rd0) Rd0 hj, hd]
  · refine h d ?_
    rw [← hd, List.getD_eq_getElem?_getD, List.getElem?_eq_getElem hj]
    exact List.getElem_mem hj
/-- Bytes that lie apart from a block. -/
def Off (w : World) (q : Nat) (A : Option Addr) (l : List Nat) : Prop := ∃ lo hi, BsIn w lo hi A l ∧ hi ≤ w.heap.size ∧ (q < lo ∨ hi ≤ q)
theorem Off.stored {w w' : World} {q : Nat} {A : Option Addr} {l : List Nat} (h : Off w q A l) (hg : w.grownBy w' (some q)) : Bs w' w'.heap.size A l := by
  obtain ⟨lo, hi, h1, h2, h3⟩ := h
  have h4 : BsIn w' lo hi A l := h1.keep fun x hx1 hx2 => hg.block x (by omega) (fun e => by injection e with e; omega)
  exact h4.bs.more (Nat.le_trans h2 hg.size)
theorem bytes_enc {W : World} {S : Nat → Prop} {g : Nat} {a b c d slot seq : Int} {st : List Nat} {k : Nat} (off : Nat) (r : Rd) (hp : PkIs 66 W S g a b c d slot seq st k) (hlt : ∀ x ∈ st, x < 256) (hn : st.length ≤ 120773) {v q : Int} (hle : off + Rc.len r.r ≤ st.length) (hsub : Rc.sub st off (Rc.len r.r) = Rc.enc v q (off : Int) r.r) :
    Calls Tryd.prog 21 #[.pointer (some ⟨g, 0, none⟩), .int .i64 (off : Int), .int .i64 ((Rc.len r.r : Nat) : Int)] W fun e w' => ∃ A c, e = .returned (.slice A (Rc.len r.r) c) ∧ SlIs A (Rc.len r.r) c ∧ Bs w' w'.heap.size A (Rc.enc v q (off : Int) r.r) ∧ Below W.heap.size W w' := by
  have e : Pk.part st (off : Int) ((Rc.len r.r : Nat) : Int) = Rc.enc v q (off : Int) r.r := by
    unfold Pk.part
    rw [if_pos ⟨by omega, by omega, by omega⟩, Int.toNat_natCast, Int.toNat_natCast, hsub]
  have hb : ∀ x ∈ Rc.enc v q (off : Int) r.r, x < 256 := by rw [← hsub]; exact sub_lt hlt _ _
  refine (pkbytes_any (off : Int) ((Rc.len r.r : Nat) : Int) (Lib.hid hp) hlt hn (by omega)).mono ?_
  rw [e, Rc.enc_length]
  rintro e w' ⟨u, rfl, hown, hbw⟩
  obtain ⟨A, cp, rfl, hbs, -, h1, h2, h3⟩ := own_bytes hown hb
  refine ⟨A, cp, rfl, ⟨fun e => ?_, h1, by unfold maxLen at h2; exact h2⟩, hbs, hbw⟩
  rcases h3 with ⟨-, h4, h5⟩ | ⟨g', e', -⟩
  · exact ⟨h5, h4⟩
  · rw [e'] at e; cases e
theorem eq_done {W : World} (r : Rd) {B : Nat} {v : Int} (hck : Rc.check v r.r = 0) (hrd : r.here W B) (hB : B ≤ W.heap.size) {B1 B2 : Option Addr} {d1 d2 : Nat} (hb : Bs W W.heap.size B1 r.key ∧ Bs W W.heap.size B2 r.val) :
    Calls Tryd.prog 27 #[.agg #[.int .i64 r.kd, .slice B1 r.key.length d1, .slice B2 r.val.length d2, .int .i64 r.x], .agg #[.int .i64 r.kd, .slice r.A1 r.n1 r.c1, .slice r.A2 r.n2 r.c2, .int .i64 r.x]] W fun e w' => e = .returned (.bool true) ∧ Below W.heap.size W w' := by
  have hsm := Rc.chk_ok hck
  have h1 : r.key.length ≤ 255 := hsm.2.2.1
  have h2 : r.val.length ≤ 65536 := hsm.2.2.2.1
  have h3 := hrd.1.2.1
  have h4 := hrd.2.2.1
  have h := receq_any r.kd r.x r.kd r.x B1 B2 r.A1 r.A2 W.heap.size B r.key.length r.val.length r.n1 r.n2 d1 d2 r.c1 r.c2 r.key r.val r.key r.val W (Nat.le_refl _) hB ⟨rfl, hb.1⟩ ⟨rfl, hb.2⟩ ⟨h3, hrd.1.2.2⟩ ⟨h4, hrd.2.2.2⟩ ⟨by omega, by omega, by omega, by omega⟩
  rwa [Rc.same_self] at h
set_option maxHeartbeats 8000000 in
theorem packerrecords_any (a b c d : Int) (A1 : Option Addr) (n1 c1 : Nat) (l1 : List Rd) (A2 : Option Addr) (n2 c2 : Nat) (l2 : List Bool) (w : World) (hl1 : Hid (l1.length = n1)) (hb1 : Hid (RecsAt w w.heap.size A1 l1)) (hl2 : Hid (l2.length = n2)) (hb2 : Hid (Arr boolS w 0 w.heap.size A2 l2)) (ht : Hid (TabW w)) (hz : 0 < w.heap.size) :
    Calls Tryd.prog 4 #[.agg #[.int .i64 a, .int .i64 b, .int .i64 c, .int .i64 d], .slice A1 n1 c1, .slice A2 n2 c2] w fun e w' => e = .returned (.bool true) ∧ Below w.heap.size w w' := by
  have HS0 := Lib.hid (sd_new w #[.int .i64 1, .int .i64 b, .int .i64 c, .int .i64 4] 23)
  have CF := Lib.hid (fun W => refsbform_any 1 b c 4 W)
  have HA : Hid (∀ W, Below w.heap.size w W → Calls Tryd.prog 10 #[] W fun e w' => e = .returned (.bool true) ∧ Below W.heap.size W w') := fun W hb => pkawake_any W (Lib.hid (ht.out.below hb hz)) (Nat.lt_of_lt_of_le hz hb.size)
  rcases form_ways b c with hf | ⟨hf, f2 | ⟨f2, hform, hc16⟩⟩
  · rw [hf.out] at CF
    clear hf
    go_enter Tryd.func4, Tryd.ntmps4
    go_upto_region 2 with fail
    generalize w.alloc (.cells #[.int .i64 1, .int .i64 b, .int .i64 c, .int .i64 4] 23) = w0 at *
    obtain ⟨z0, z1, z2, z3⟩ := four_cells HS0.out.1
    go_wp2_with fail
    refine (CF.out _).mono ?_
    rintro r w1 ⟨rfl, hb1⟩
    have HS1 := Lib.hid (HS0.out.next hb1 (by rfl) (by rfl) (by rfl) (by rfl))
    clear hb1
    go_wp2_with fail
    refine (HA.out _ HS1.out.2).mono ?_
    rintro r w2 ⟨rfl, hb2⟩
    have HS2 := Lib.hid (HS1.out.next hb2 (by rfl) (by rfl) (by rfl) (by rfl))
    go_wp2
    go_ret
    exact ⟨rfl, HS2.out.2⟩
  · rw [hf.out] at CF
    clear hf
    go_enter Tryd.func4, Tryd.ntmps4
    go_upto_region 2 with fail
    generalize w.alloc (.cells #[.int .i64 1, .int .i64 b, .int .i64 c, .int .i64 4] 23) = w0 at *
    obtain ⟨z0, z1, z2, z3⟩ := four_cells HS0.out.1
    go_wp2_with fail
    refine (CF.out _).mono ?_
    rintro r w1 ⟨rfl, hb1⟩
    have HS1 := Lib.hid (HS0.out.next hb1 (by rfl) (by rfl) (by rfl) (by rfl))
    clear hb1
    obtain ⟨y0, y1, y2, y3⟩ := four_cells HS1.out.1
    go_wp2_with fail
    refine (HA.out _ HS1.out.2).mono ?_
    rintro r w2 ⟨rfl, hb2⟩
    have HS2 := Lib.hid (HS1.out.next hb2 (by rfl) (by rfl) (by rfl) (by rfl))
    go_wp2
    go_ret
    exact ⟨rfl, HS2.out.2⟩
  · rw [hf.out] at CF
    have hok : Pk.ok ⟨1, b, c, 4⟩ 1 7 := law_ok hform (by decide) (by decide)
    have HN := Lib.hid (fun W => pknew_any 1 b c 4 1 7 W)
    unfold PkNew at HN
    rw [Pk.may_zero hok] at HN
    have HOK := Lib.hid hok
    clear hf hok hform
    go_enter Tryd.func4, Tryd.ntmps4
    go_upto_region 2 with fail
    generalize w.alloc (.cells #[.int .i64 1, .int .i64 b, .int .i64 c, .int .i64 4] 23) = w0 at *
    obtain ⟨z0, z1, z2, z3⟩ := four_cells HS0.out.1
    go_wp2_with fail
    refine (CF.out _).mono ?_
    rintro r w1 ⟨rfl, hb1'⟩
    have HS1 := Lib.hid (HS0.out.next hb1' (by rfl) (by rfl) (by rfl) (by rfl))
    clear hb1' z0 z1 z2 z3
    obtain ⟨z0, z1, z2, z3⟩ := four_cells HS1.out.1
    go_wp2_with fail
    refine (HN.out _).mono ?_
    rintro e w2 ⟨p, rfl, hb2', -, hokp⟩
    obtain ⟨g, rfl, hgp, hp2⟩ := hokp HOK.out
    have HS2 := Lib.hid (HS1.out.next hb2' (by rfl) (by rfl) (by rfl) (by rfl))
    obtain ⟨col, HST⟩ : ∃ col, Hid (StR w 1 b c 4 1 7 w2 col g [] 0 (.slice none 0 0) (([] : List (Nat × Rd))).length (intS.flat (offs (([] : List (Nat × Rd))))) (.slice none 0 0) (([] : List (Nat × Rd))).length (intS.flat (lens (([] : List (Nat × Rd))))) (.slice none 0 0) (([] : List (Nat × Rd))).length (recS.flat (recs (([] : List (Nat × Rd)))))) := ⟨paint (fun _ => 0) w1 w2 1, (Col.none w1 w.heap.size).paint HS1.out.2.size hb2'.size 1, HS2.out.2, ⟨HS2.out.1, paint_old (Array.getElem?_eq_some_iff.1 HS1.out.1).1⟩, hp2.first 1, SRow.nil, SRow.nil, SRow.nil⟩
    have HFIT : Hid (Pk.Fit ⟨1, b, c, 4⟩ 1 7 [] 0) := Pk.Fit.start HOK.out
    clear hb2' hokp hp2 hgp HN HS1 CF z0 z1 z2 z3 HS0
    go_wp2_with fail
    have HPUT : Hid (∀ (W : World) (col : Nat → Nat) st (r : Rd), PkIs 66 W (fun i => col i = 1) g 1 b c 4 1 7 st 0 → Pk.Fit ⟨1, b, c, 4⟩ 1 7 st 0 → r.here W w.heap.size → TabW W → w.heap.size ≤ W.heap.size → Calls Tryd.prog 12 #[.pointer (some ⟨g, 0, none⟩), .agg #[.int .i64 r.kd, .slice r.A1 r.n1 r.c1, .slice r.A2 r.n2 r.c2, .int .i64 r.x]] W (PkPut 66 W (fun i => col i = 1) g 1 b c 4 1 7 st 0 r.r)) := fun W col st r h1 h2 h3 h4 h5 =>
      pkput_any r.kd r.x r.key r.val r.A1 r.A2 w.heap.size r.n1 r.c1 r.n2 r.c2 h5 h3 (Lib.hid h1) h2 h4 (Nat.lt_of_lt_of_le hz h5)
    have HFP : Hid (∀ st (r : Rd) W B, Pk.Fit ⟨1, b, c, 4⟩ 1 7 st 0 → r.here W B → Pk.Fit ⟨1, b, c, 4⟩ 1 7 (Pk.put ⟨1, b, c, 4⟩ 7 st r.r) 0) := fun st r W B h1 h2 => h1.put _ h2.lt.1 h2.lt.2
    go_loopw [9, 10, 11, 12] (fun v9 v10 v11 iv wr => ∃ (i : Nat) (st : List Nat) (ds : List (Nat × Rd)) (col : Nat → Nat), iv = .int .i64 (i : Int) ∧ i ≤ 12 ∧ ds.length ≤ i ∧ Hid (StR w 1 b c 4 1 7 wr col g st 0 v9 (ds).length (intS.flat (offs (ds))) v10 (ds).length (intS.flat (lens (ds))) v11 (ds).length (recS.flat (recs (ds)))) ∧ Hid (Pk.Fit ⟨1, b, c, 4⟩ 1 7 st 0) ∧ Hid (AllIs w b st ds)) (fun _ _ _ i _ => 12 - (Go.RowKit.intOf i).toNat)
    case atStart => exact ⟨0, [], [], col, rfl, by decide, by decide, HST.out, HFIT.out, fun d hd => absurd hd (by simp)⟩
    case round =>
      obtain ⟨i, st, ds, col, rfl, hi12, hdi, HST, HFIT, HALL⟩ := hrel
      rcases loop_ways i n1 12 12 rfl with ⟨f1, f1'⟩ | ⟨f1, f1', f3⟩ | ⟨hin, hi, f1, f1', f3⟩
      · skip
        obtain ⟨A9, c9, rfl, h9⟩ := ints_open HST.out.o
        obtain ⟨A10, c10, rfl, h10⟩ := ints_open HST.out.n
        obtain ⟨A11, c11, rfl, h11⟩ := recs_open HST.out.r
        have HDN := Lib.hid (done_at HALL.out)
        have HUP := Lib.hid HST.out.up
        have HBOX := Lib.hid HST.out.box.1
        have HP := Lib.hid HST.out.p
        have hst := HFIT.out.short
        have HLT := Lib.hid HFIT.out.lt
        have H9 := Lib.hid h9
        have H10 := Lib.hid h10
        have H11 := Lib.hid h11
        clear h9 h10 h11 HST HALL HFIT HPUT HFP
        generalize wr = w1 at *
        go_wp2_with fail
        go_loopw [17, 89] (fun _ jv wx => ∃ j : Nat, jv = .int .i64 (j : Int) ∧ j ≤ ds.length ∧ Hid (Below w1.heap.size w1 wx)) (fun _ jv _ => ds.length - (Go.RowKit.intOf jv).toNat)
        case atStart => exact ⟨0, rfl, Nat.zero_le _, Below.refl _ _⟩
        case round =>
          obtain ⟨j, rfl, hjm, HB⟩ := hrel
          by_cases hj : j < ds.length
          · obtain ⟨off, r, e1, e2, e3, hck, hpl, hle, hsub, hrd⟩ := HDN.out j hj
            obtain ⟨a9, rfl, hc9⟩ := H9.out j hj
            obtain ⟨a10, rfl, hc10⟩ := H10.out j hj
            obtain ⟨a11, rfl, hc11⟩ := H11.out j hj
            rw [e1] at hc9
            rw [e2] at hc10
            have hjI : (j : Int) < ((ds.length : Nat) : Int) := by omega
            have HC21 : Hid (∀ W, Below w1.heap.size w1 W → W.cell? ⟨w.heap.size, 1, none⟩ = some (.int .i64 b) ∧ W.cell? (a9.add j) = some (.int .i64 (off : Int)) ∧ W.cell? (a10.add j) = some (.int .i64 ((Rc.len r.r : Nat) : Int))) := fun W hW => ⟨cell_on hW (four_cells HBOX.out).2.1, hc9 W hW, hc10 W hW⟩
            have HC22 : Hid (∀ W, Below w1.heap.size w1 W → W.cell? (a10.add j) = some (.int .i64 ((Rc.len r.r : Nat) : Int)) ∧ W.cell? (a11.add (j * 4)) = some (.int .i64 r.kd) ∧ W.cell? ⟨(a11.add (j * 4)).block, (a11.add (j * 4)).off + 1, none⟩ = some (.slice r.A1 r.n1 r.c1) ∧ W.cell? ⟨(a11.add (j * 4)).block, (a11.add (j * 4)).off + 2, none⟩ = some (.slice r.A2 r.n2 r.c2) ∧ W.cell? ⟨(a11.add (j * 4)).block, (a11.add (j * 4)).off + 3, none⟩ = some (.int .i64 r.x)) := fun W hW => ⟨hc10 W hW, hc11 W hW r e3⟩
            have HBY : Hid (∀ W, Below w1.heap.size w1 W → Calls Tryd.prog 21 #[.pointer (some ⟨g, 0, none⟩), .int .i64 (off : Int), .int .i64 ((Rc.len r.r : Nat) : Int)] W fun e w' => ∃ A c, e = .returned (.slice A (Rc.len r.r) c) ∧ SlIs A (Rc.len r.r) c ∧ Bs w' w'.heap.size A (Rc.enc b 7 (off : Int) r.r) ∧ Below W.heap.size W w') := fun W hW =>
              bytes_enc off r (HP.out.new hW) HLT.out hst hle hsub
            have HDE : Hid (∀ W A c, SlIs A (Rc.len r.r) c → Bs W W.heap.size A (Rc.enc b 7 (off : Int) r.r) → Calls Tryd.prog 26 #[.int .i64 b, .int .i64 7, .int .i64 (off : Int), .slice A (Rc.len r.r) c] W fun e w' => ∃ A1 c1 A2 c2, e = .returned (.tuple #[.agg #[.int .i64 r.kd, .slice A1 r.key.length c1, .slice A2 r.val.length c2, .int .i64 r.x], .int .i64 ((Rc.len r.r : Nat) : Int), .bool true]) ∧ BsIn w' W.heap.size w'.heap.size A1 r.key ∧ BsIn w' W.heap.size w'.heap.size A2 r.val ∧ Below W.heap.size W w') := fun W A c hs hb =>
              refdecode_enc b 7 off r.r A _ c W hck hpl (by decide) hs rfl hb
            have HEQ : Hid (∀ W B1 d1 B2 d2, Below w1.heap.size w1 W → Bs W W.heap.size B1 r.key ∧ Bs W W.heap.size B2 r.val → Calls Tryd.prog 27 #[.agg #[.int .i64 r.kd, .slice B1 r.key.length d1, .slice B2 r.val.length d2, .int .i64 r.x], .agg #[.int .i64 r.kd, .slice r.A1 r.n1 r.c1, .slice r.A2 r.n2 r.c2, .int .i64 r.x]] W fun e w' => e = .returned (.bool true) ∧ Below W.heap.size W w') := fun W B1 d1 B2 d2 hW hB =>
              eq_done r hck (hrd.below (HUP.out.trans (hW.mono HUP.out.size)) (Nat.le_refl _)) (HUP.out.trans (hW.mono HUP.out.size)).size hB
            clear e1 e2 e3 hck hpl hle hsub hrd hc9 hc10 hc11 HDN H9 H10 H11 HP HBOX HLT
            generalize Rc.len r.r = nr at *
            go_wp2_with fail
            go_upto_region 21 with fail
            go_cut [18, 19, 20] (fun v18 v19 v20 wx => ∃ q A1 d1 A2 d2, v18 = .pointer (some ⟨q, 0, none⟩) ∧ v19 = .int .i64 (nr : Int) ∧ v20 = .bool true ∧ Hid (wx.heap[q]? = some (.cells #[.int .i64 r.kd, .slice A1 r.key.length d1, .slice A2 r.val.length d2, .int .i64 r.x] 38 (0, 0))) ∧ Hid (Bs wx wx.heap.size A1 r.key ∧ Bs wx wx.heap.size A2 r.val) ∧ Hid (Below w1.heap.size w1 wx))
            case first =>
              have HBa : Hid (Below w1.heap.size w1 wr.drew) := HB.out.trans ((below_drewN wr 1).mono HB.out.size)
              refine wp_region_held_drew (S := fun W => W.cell? ⟨w.heap.size, 1, none⟩ = some (.int .i64 b) ∧ W.cell? (a9.add j) = some (.int .i64 (off : Int)) ∧ W.cell? (a10.add j) = some (.int .i64 (nr : Int))) (by kernel_rfl) (HC21.out _ HBa.out) (fun hH => ?_)
              change wpAnyH _ _ _ _ _ 25 #[false, false, false, false, false, false, false, false, false, false, false, false, false, false, false, false, false, false, false, false, false, false, false, false, false] _ _
              clear hH
              generalize wr.drew = wa at *
              refine held_take (i := 0) (v := ?_) (d := some 93) rfl rfl (by kernel_rfl) (by kernel_rfl) (by kernel_rfl) (fun _ _ _ h => h) (HC21.out _ HBa.out) ⟨?_, fun w hSw => ?_⟩ ?_
              rotate_left 1
              · rfl
              · (go_simp; all_goals with_reducible rfl)
              simp only [Act.put, List.setIfInBounds_toArray, List.set_cons_zero, List.set_cons_succ]
              refine held_take (i := 1) (v := ?_) (d := some 94) rfl rfl (by kernel_rfl) (by kernel_rfl) (by kernel_rfl) (fun _ _ _ h => h) (HC21.out _ HBa.out) ⟨?_, fun w hSw => ?_⟩ ?_
              rotate_left 1
              · rfl
              · obtain ⟨y0, y1, y2⟩ := hSw
                (go_simp; all_goals with_reducible rfl)
              simp only [Act.put, List.setIfInBounds_toArray, List.set_cons_zero, List.set_cons_succ]
              refine held_take (i := 2) (v := ?_) (d := some 95) rfl rfl (by kernel_rfl) (by kernel_rfl) (by kernel_rfl) (fun _ _ _ h => h) (HC21.out _ HBa.out) ⟨?_, fun w hSw => ?_⟩ ?_
              rotate_left 1
              · rfl
              · (go_simp; all_goals with_reducible rfl)
              simp only [Act.put, List.setIfInBounds_toArray, List.set_cons_zero, List.set_cons_succ]
              refine held_take (i := 3) (v := ?_) (d := some 96) rfl rfl (by kernel_rfl) (by kernel_rfl) (by kernel_rfl) (fun _ _ _ h => h) (HC21.out _ HBa.out) ⟨?_, fun w hSw => ?_⟩ ?_
              rotate_left 1
              · rfl
              · (go_simp; all_goals with_reducible rfl)
              simp only [Act.put, List.setIfInBounds_toArray, List.set_cons_zero, List.set_cons_succ]
              refine held_take (i := 4) (v := ?_) (d := some 97) rfl rfl (by kernel_rfl) (by kernel_rfl) (by kernel_rfl) (fun _ _ _ h => h) (HC21.out _ HBa.out) ⟨?_, fun w hSw => ?_⟩ ?_
              rotate_left 1
              · rfl
              · obtain ⟨y0, y1, y2⟩ := hSw
                (go_simp; all_goals with_reducible rfl)
              simp only [Act.put, List.setIfInBounds_toArray, List.set_cons_zero, List.set_cons_succ]
              refine held_take (i := 5) (v := ?_) (d := some 98) rfl rfl (by kernel_rfl) (by kernel_rfl) (by kernel_rfl) (fun _ _ _ h => h) (HC21.out _ HBa.out) ⟨?_, fun w hSw => ?_⟩ ?_
              rotate_left 1
              · rfl
              · obtain ⟨y0, y1, y2⟩ := hSw
                (go_simp; all_goals with_reducible rfl)
              simp only [Act.put, List.setIfInBounds_toArray, List.set_cons_zero, List.set_cons_succ]
              refine held_take (i := 6) (v := ?_) (d := some 99) rfl rfl (by kernel_rfl) (by kernel_rfl) (by kernel_rfl) (fun _ _ _ h => h) (HC21.out _ HBa.out) ⟨?_, fun w hSw => ?_⟩ ?_
              rotate_left 1
              · rfl
              · (go_simp; all_goals with_reducible rfl)
              simp only [Act.put, List.setIfInBounds_toArray, List.set_cons_zero, List.set_cons_succ]
              refine held_take (i := 7) (v := ?_) (d := some 100) rfl rfl (by kernel_rfl) (by kernel_rfl) (by kernel_rfl) (fun _ _ _ h => h) (HC21.out _ HBa.out) ⟨?_, fun w hSw => ?_⟩ ?_
              rotate_left 1
              · rfl
              · (go_simp; all_goals with_reducible rfl)
              simp only [Act.put, List.setIfInBounds_toArray, List.set_cons_zero, List.set_cons_succ]
              refine held_take (i := 8) (v := ?_) (d := some 101) rfl rfl (by kernel_rfl) (by kernel_rfl) (by kernel_rfl) (fun _ _ _ h => h) (HC21.out _ HBa.out) ⟨?_, fun w hSw => ?_⟩ ?_
              rotate_left 1
              · rfl
              · (go_simp; all_goals with_reducible rfl)
              simp only [Act.put, List.setIfInBounds_toArray, List.set_cons_zero, List.set_cons_succ]
              refine held_take (i := 9) (v := ?_) (d := some 102) rfl rfl (by kernel_rfl) (by kernel_rfl) (by kernel_rfl) (fun _ _ _ h => h) (HC21.out _ HBa.out) ⟨?_, fun w hSw => ?_⟩ ?_
              rotate_left 1
              · rfl
              · obtain ⟨y0, y1, y2⟩ := hSw
                (go_simp; all_goals with_reducible rfl)
              simp only [Act.put, List.setIfInBounds_toArray, List.set_cons_zero, List.set_cons_succ]
              refine held_take (i := 10) (v := ?_) (d := some 103) rfl rfl (by kernel_rfl) (by kernel_rfl) (by kernel_rfl) (fun _ _ _ h => h) (HC21.out _ HBa.out) ⟨?_, fun w hSw => ?_⟩ ?_
              rotate_left 1
              · rfl
              · obtain ⟨y0, y1, y2⟩ := hSw
                (go_simp; all_goals with_reducible rfl)
              simp only [Act.put, List.setIfInBounds_toArray, List.set_cons_zero, List.set_cons_succ]
              refine held_take (i := 11) (v := ?_) (d := some 104) rfl rfl (by kernel_rfl) (by kernel_rfl) (by kernel_rfl) (fun _ _ _ h => h) (HC21.out _ HBa.out) ⟨?_, fun w hSw => ?_⟩ ?_
              rotate_left 1
              · rfl
              · (go_simp; all_goals with_reducible rfl)
              simp only [Act.put, List.setIfInBounds_toArray, List.set_cons_zero, List.set_cons_succ]
              refine held_take (i := 12) (v := ?_) (d := some 105) rfl rfl (by kernel_rfl) (by kernel_rfl) (by kernel_rfl) (fun _ _ _ h => h) (HC21.out _ HBa.out) ⟨?_, fun w hSw => ?_⟩ ?_
              rotate_left 1
              · rfl
              · (go_simp; all_goals with_reducible rfl)
              simp only [Act.put, List.setIfInBounds_toArray, List.set_cons_zero, List.set_cons_succ]
              refine held_take (i := 13) (v := ?_) (d := some 106) rfl rfl (by kernel_rfl) (by kernel_rfl) (by kernel_rfl) (fun _ _ _ h => h) (HC21.out _ HBa.out) ⟨?_, fun w hSw => ?_⟩ ?_
              rotate_left 1
              · rfl
              · obtain ⟨y0, y1, y2⟩ := hSw
                (go_simp; all_goals with_reducible rfl)
              simp only [Act.put, List.setIfInBounds_toArray, List.set_cons_zero, List.set_cons_succ]
              refine held_take (i := 14) (v := ?_) (d := some 107) rfl rfl (by kernel_rfl) (by kernel_rfl) (by kernel_rfl) (fun _ _ _ h => h) (HC21.out _ HBa.out) ⟨?_, fun w hSw => ?_⟩ ?_
              rotate_left 1
              · rfl
              · obtain ⟨y0, y1, y2⟩ := hSw
                (go_simp; all_goals with_reducible rfl)
              simp only [Act.put, List.setIfInBounds_toArray, List.set_cons_zero, List.set_cons_succ]
              refine hold_two (i := 15) (j := 21) rfl rfl (by kernel_rfl) (by rfl) (by rfl) (fun K hK => ?_) (fun K hK => ?_)
              · go_simp
                refine (HBY.out _ HBa.out).mono ?_
                rintro e w1x ⟨A1, k1, rfl, hs1, hbs1, hb1⟩
                have HB1 := Lib.hid (HBa.out.trans (hb1.mono HBa.out.size))
                have HA1 := Lib.hid (And.intro hs1 hbs1)
                clear hs1 hbs1 hb1
                refine hK _ _ (HC21.out _ HB1.out) ?_
                clear hK K
                simp only [List.setIfInBounds_toArray, List.set_cons_zero, List.set_cons_succ]
                refine hold_two (i := 16) (j := 21) rfl rfl (by kernel_rfl) (by rfl) (by rfl) (fun K hK => ?_) (fun K hK => ?_)
                · go_simp
                  refine (HDE.out _ _ _ HA1.out.1 HA1.out.2).mono ?_
                  rintro e w2x ⟨B21, d21, B22, d22, rfl, h21, h22, hb2⟩
                  have HB2 := Lib.hid (HB1.out.trans (hb2.mono HB1.out.size))
                  have HK2 := Lib.hid (And.intro h21 h22)
                  clear h21 h22 hb2
                  refine hK _ _ (HC21.out _ HB2.out) ?_
                  clear hK K
                  simp only [List.setIfInBounds_toArray, List.set_cons_zero, List.set_cons_succ]
                  refine held_take (i := 17) (v := ?_) (d := some 92) rfl rfl (by kernel_rfl) (by kernel_rfl) (by kernel_rfl) (fun _ _ _ h => h) (HC21.out _ HB2.out) ⟨?_, fun w hSw => ?_⟩ ?_
                  rotate_left 1
                  · rfl
                  · (go_simp; all_goals with_reducible rfl)
                  simp only [Act.put, List.setIfInBounds_toArray, List.set_cons_zero, List.set_cons_succ]
                  refine held_take (i := 18) (v := ?_) (d := some 110) rfl rfl (by kernel_rfl) (by kernel_rfl) (by kernel_rfl) (fun _ _ _ h => h) (HC21.out _ HB2.out) ⟨?_, fun w hSw => ?_⟩ ?_
                  rotate_left 1
                  · rfl
                  · (go_simp; all_goals with_reducible rfl)
                  simp only [Act.put, List.setIfInBounds_toArray, List.set_cons_zero, List.set_cons_succ]
                  refine held_take (i := 19) (v := ?_) (d := some 111) rfl rfl (by kernel_rfl) (by kernel_rfl) (by kernel_rfl) (fun _ _ _ h => h) (HC21.out _ HB2.out) ⟨?_, fun w hSw => ?_⟩ ?_
                  rotate_left 1
                  · rfl
                  · (go_simp; all_goals with_reducible rfl)
                  simp only [Act.put, List.setIfInBounds_toArray, List.set_cons_zero, List.set_cons_succ]
                  refine held_take (i := 20) (v := ?_) (d := some 112) rfl rfl (by kernel_rfl) (by kernel_rfl) (by kernel_rfl) (fun _ _ _ h => h) (HC21.out _ HB2.out) ⟨?_, fun w hSw => ?_⟩ ?_
                  rotate_left 1
                  · rfl
                  · (go_simp; all_goals with_reducible rfl)
                  simp only [Act.put, List.setIfInBounds_toArray, List.set_cons_zero, List.set_cons_succ]
                  refine held_step (i := 21) rfl (by kernel_rfl) ?_ (fun K hK => ?_)
                  · rfl
                  go_simp
                  have HL3 : Hid (Below w2x.heap.size w2x (w2x.alloc (.cells #[.int .i64 0, .slice none 0 0, .slice none 0 0, .int .i64 0] 38))) := (Below.refl _ _).alloc (Nat.le_refl _) _
                  have HB3 := Lib.hid (HB2.out.trans (HL3.out.mono HB2.out.size))
                  have HX3 := Lib.hid (heap_alloc_new w2x (.cells #[.int .i64 0, .slice none 0 0, .slice none 0 0, .int .i64 0] 38))
                  have HQ3 : Hid (w1.heap.size ≤ w2x.heap.size) := HB2.out.size
                  have HF3 : Hid (Off (w2x.alloc (.cells #[.int .i64 0, .slice none 0 0, .slice none 0 0, .int .i64 0] 38)) w2x.heap.size B21 r.key ∧ Off (w2x.alloc (.cells #[.int .i64 0, .slice none 0 0, .slice none 0 0, .int .i64 0] 38)) w2x.heap.size B22 r.val) := ⟨⟨_, _, HK2.out.1.keep (fun x _ hx => HL3.out.block x hx), HL3.out.size, .inr (Nat.le_refl _)⟩, ⟨_, _, HK2.out.2.keep (fun x _ hx => HL3.out.block x hx), HL3.out.size, .inr (Nat.le_refl _)⟩⟩
                  generalize w2x.alloc (.cells #[.int .i64 0, .slice none 0 0, .slice none 0 0, .int .i64 0] 38) = w3x at *
                  generalize w2x.heap.size = q3 at *
                  refine hK _ _ (HC21.out _ HB3.out) ?_
                  clear hK K
                  simp only [List.setIfInBounds_toArray, List.set_cons_zero, List.set_cons_succ]
                  refine held_step (i := 22) rfl (by kernel_rfl) ?_ (fun K hK => ?_)
                  · rfl
                  obtain ⟨z0, z1, z2, z3⟩ := four_cells HX3.out
                  obtain ⟨g0, g1, g2, g3⟩ := four_frozen HX3.out
                  go_simp
                  have HG4 : Hid (w3x.grownBy ((((w3x.setCell ⟨q3, 0, none⟩ (.int .i64 r.kd)).setCell ⟨q3, 1, none⟩ (.slice B21 r.key.length d21)).setCell ⟨q3, 2, none⟩ (.slice B22 r.val.length d22)).setCell ⟨q3, 3, none⟩ (.int .i64 r.x)) (some q3)) := stored_grown w3x q3 _ _ _ _
                  have HX4 : Hid (((((w3x.setCell ⟨q3, 0, none⟩ (.int .i64 r.kd)).setCell ⟨q3, 1, none⟩ (.slice B21 r.key.length d21)).setCell ⟨q3, 2, none⟩ (.slice B22 r.val.length d22)).setCell ⟨q3, 3, none⟩ (.int .i64 r.x)).heap[q3]? = some (.cells #[.int .i64 r.kd, .slice B21 r.key.length d21, .slice B22 r.val.length d22, .int .i64 r.x] 38 (0, 0))) := stored HX3.out
                  have HB4 : Hid (Below w1.heap.size w1 ((((w3x.setCell ⟨q3, 0, none⟩ (.int .i64 r.kd)).setCell ⟨q3, 1, none⟩ (.slice B21 r.key.length d21)).setCell ⟨q3, 2, none⟩ (.slice B22 r.val.length d22)).setCell ⟨q3, 3, none⟩ (.int .i64 r.x))) := HB3.out.trans (below_of_grown HG4.out HQ3.out HB3.out.size)
                  have HK4 : Hid (Bs ((((w3x.setCell ⟨q3, 0, none⟩ (.int .i64 r.kd)).setCell ⟨q3, 1, none⟩ (.slice B21 r.key.length d21)).setCell ⟨q3, 2, none⟩ (.slice B22 r.val.length d22)).setCell ⟨q3, 3, none⟩ (.int .i64 r.x)) ((((w3x.setCell ⟨q3, 0, none⟩ (.int .i64 r.kd)).setCell ⟨q3, 1, none⟩ (.slice B21 r.key.length d21)).setCell ⟨q3, 2, none⟩ (.slice B22 r.val.length d22)).setCell ⟨q3, 3, none⟩ (.int .i64 r.x)).heap.size B21 r.key ∧ Bs ((((w3x.setCell ⟨q3, 0, none⟩ (.int .i64 r.kd)).setCell ⟨q3, 1, none⟩ (.slice B21 r.key.length d21)).setCell ⟨q3, 2, none⟩ (.slice B22 r.val.length d22)).setCell ⟨q3, 3, none⟩ (.int .i64 r.x)) ((((w3x.setCell ⟨q3, 0, none⟩ (.int .i64 r.kd)).setCell ⟨q3, 1, none⟩ (.slice B21 r.key.length d21)).setCell ⟨q3, 2, none⟩ (.slice B22 r.val.length d22)).setCell ⟨q3, 3, none⟩ (.int .i64 r.x)).heap.size B22 r.val) := ⟨HF3.out.1.stored HG4.out, HF3.out.2.stored HG4.out⟩
                  clear HG4 z0 z1 z2 z3 g0 g1 g2 g3
                  generalize ((((w3x.setCell ⟨q3, 0, none⟩ (.int .i64 r.kd)).setCell ⟨q3, 1, none⟩ (.slice B21 r.key.length d21)).setCell ⟨q3, 2, none⟩ (.slice B22 r.val.length d22)).setCell ⟨q3, 3, none⟩ (.int .i64 r.x)) = w4x at *
                  refine hK _ _ (HC21.out _ HB4.out) ?_
                  clear hK K
                  simp only [List.setIfInBounds_toArray, List.set_cons_zero, List.set_cons_succ]
                  refine held_take (i := 23) (v := ?_) (d := some 19) rfl rfl (by kernel_rfl) (by kernel_rfl) (by kernel_rfl) (fun _ _ _ h => h) (HC21.out _ HB4.out) ⟨?_, fun w hSw => ?_⟩ ?_
                  rotate_left 1
                  · rfl
                  · (go_simp; all_goals with_reducible rfl)
                  simp only [Act.put, List.setIfInBounds_toArray, List.set_cons_zero, List.set_cons_succ]
                  refine held_take (i := 24) (v := ?_) (d := some 20) rfl rfl (by kernel_rfl) (by kernel_rfl) (by kernel_rfl) (fun _ _ _ h => h) (HC21.out _ HB4.out) ⟨?_, fun w hSw => ?_⟩ ?_
                  rotate_left 1
                  · rfl
                  · (go_simp; all_goals with_reducible rfl)
                  simp only [Act.put, List.setIfInBounds_toArray, List.set_cons_zero, List.set_cons_succ]
                  refine wpAnyH_done (by kernel_rfl) ?_ _
                  (try go_wp2_with fail)
                  go_meet
                  exact ⟨_, _, _, _, _, rfl, rfl, rfl, HX4.out, HK4.out, HB4.out⟩
                · go_simp
                  have HL5 : Hid (Below w1x.heap.size w1x (w1x.alloc (.cells #[.int .i64 0, .slice none 0 0, .slice none 0 0, .int .i64 0] 38))) := (Below.refl _ _).alloc (Nat.le_refl _) _
                  have HB5 := Lib.hid (HB1.out.trans (HL5.out.mono HB1.out.size))
                  have HX5 := Lib.hid (heap_alloc_new w1x (.cells #[.int .i64 0, .slice none 0 0, .slice none 0 0, .int .i64 0] 38))
                  have HQ5 : Hid (w1.heap.size ≤ w1x.heap.size) := HB1.out.size
                  have HA5 := Lib.hid (And.intro HA1.out.1 ((HA1.out.2.below HL5.out (Nat.le_refl _)).more HL5.out.size))
                  generalize w1x.alloc (.cells #[.int .i64 0, .slice none 0 0, .slice none 0 0, .int .i64 0] 38) = w5x at *
                  generalize w1x.heap.size = q5 at *
                  refine hK _ _ (HC21.out _ HB5.out) ?_
                  clear hK K
                  simp only [List.setIfInBounds_toArray, List.set_cons_zero, List.set_cons_succ]
                  refine held_step (i := 16) rfl (by kernel_rfl) ?_ (fun K hK => ?_)
                  · rfl
                  go_simp
                  refine (HDE.out _ _ _ HA5.out.1 HA5.out.2).mono ?_
                  rintro e w6x ⟨B61, d61, B62, d62, rfl, h61, h62, hb6⟩
                  have HB6 := Lib.hid (HB5.out.trans (hb6.mono HB5.out.size))
                  have HK6 := Lib.hid (And.intro h61 h62)
                  have HF6 : Hid (Off w6x q5 B61 r.key ∧ Off w6x q5 B62 r.val) := ⟨⟨_, _, h61, Nat.le_refl _, .inl (Array.getElem?_eq_some_iff.1 HX5.out).1⟩, ⟨_, _, h62, Nat.le_refl _, .inl (Array.getElem?_eq_some_iff.1 HX5.out).1⟩⟩
                  have HX6 := Lib.hid ((hb6.block _ (Array.getElem?_eq_some_iff.1 HX5.out).1).trans HX5.out)
                  clear h61 h62 hb6
                  refine hK _ _ (HC21.out _ HB6.out) ?_
                  clear hK K
                  simp only [List.setIfInBounds_toArray, List.set_cons_zero, List.set_cons_succ]
                  refine held_take (i := 17) (v := ?_) (d := some 92) rfl rfl (by kernel_rfl) (by kernel_rfl) (by kernel_rfl) (fun _ _ _ h => h) (HC21.out _ HB6.out) ⟨?_, fun w hSw => ?_⟩ ?_
                  rotate_left 1
                  · rfl
                  · (go_simp; all_goals with_reducible rfl)
                  simp only [Act.put, List.setIfInBounds_toArray, List.set_cons_zero, List.set_cons_succ]
                  refine held_take (i := 18) (v := ?_) (d := some 110) rfl rfl (by kernel_rfl) (by kernel_rfl) (by kernel_rfl) (fun _ _ _ h => h) (HC21.out _ HB6.out) ⟨?_, fun w hSw => ?_⟩ ?_
                  rotate_left 1
                  · rfl
                  · (go_simp; all_goals with_reducible rfl)
                  simp only [Act.put, List.setIfInBounds_toArray, List.set_cons_zero, List.set_cons_succ]
                  refine held_take (i := 19) (v := ?_) (d := some 111) rfl rfl (by kernel_rfl) (by kernel_rfl) (by kernel_rfl) (fun _ _ _ h => h) (HC21.out _ HB6.out) ⟨?_, fun w hSw => ?_⟩ ?_
                  rotate_left 1
                  · rfl
                  · (go_simp; all_goals with_reducible rfl)
                  simp only [Act.put, List.setIfInBounds_toArray, List.set_cons_zero, List.set_cons_succ]
                  refine held_take (i := 20) (v := ?_) (d := some 112) rfl rfl (by kernel_rfl) (by kernel_rfl) (by kernel_rfl) (fun _ _ _ h => h) (HC21.out _ HB6.out) ⟨?_, fun w hSw => ?_⟩ ?_
                  rotate_left 1
                  · rfl
                  · (go_simp; all_goals with_reducible rfl)
                  simp only [Act.put, List.setIfInBounds_toArray, List.set_cons_zero, List.set_cons_succ]
                  refine held_step (i := 22) rfl (by kernel_rfl) ?_ (fun K hK => ?_)
                  · rfl
                  obtain ⟨z0, z1, z2, z3⟩ := four_cells HX6.out
                  obtain ⟨g0, g1, g2, g3⟩ := four_frozen HX6.out
                  go_simp
                  have HG7 : Hid (w6x.grownBy ((((w6x.setCell ⟨q5, 0, none⟩ (.int .i64 r.kd)).setCell ⟨q5, 1, none⟩ (.slice B61 r.key.length d61)).setCell ⟨q5, 2, none⟩ (.slice B62 r.val.length d62)).setCell ⟨q5, 3, none⟩ (.int .i64 r.x)) (some q5)) := stored_grown w6x q5 _ _ _ _
                  have HX7 : Hid (((((w6x.setCell ⟨q5, 0, none⟩ (.int .i64 r.kd)).setCell ⟨q5, 1, none⟩ (.slice B61 r.key.length d61)).setCell ⟨q5, 2, none⟩ (.slice B62 r.val.length d62)).setCell ⟨q5, 3, none⟩ (.int .i64 r.x)).heap[q5]? = some (.cells #[.int .i64 r.kd, .slice B61 r.key.length d61, .slice B62 r.val.length d62, .int .i64 r.x] 38 (0, 0))) := stored HX6.out
                  have HB7 : Hid (Below w1.heap.size w1 ((((w6x.setCell ⟨q5, 0, none⟩ (.int .i64 r.kd)).setCell ⟨q5, 1, none⟩ (.slice B61 r.key.length d61)).setCell ⟨q5, 2, none⟩ (.slice B62 r.val.length d62)).setCell ⟨q5, 3, none⟩ (.int .i64 r.x))) := HB6.out.trans (below_of_grown HG7.out HQ5.out HB6.out.size)
                  have HK7 : Hid (Bs ((((w6x.setCell ⟨q5, 0, none⟩ (.int .i64 r.kd)).setCell ⟨q5, 1, none⟩ (.slice B61 r.key.length d61)).setCell ⟨q5, 2, none⟩ (.slice B62 r.val.length d62)).setCell ⟨q5, 3, none⟩ (.int .i64 r.x)) ((((w6x.setCell ⟨q5, 0, none⟩ (.int .i64 r.kd)).setCell ⟨q5, 1, none⟩ (.slice B61 r.key.length d61)).setCell ⟨q5, 2, none⟩ (.slice B62 r.val.length d62)).setCell ⟨q5, 3, none⟩ (.int .i64 r.x)).heap.size B61 r.key ∧ Bs ((((w6x.setCell ⟨q5, 0, none⟩ (.int .i64 r.kd)).setCell ⟨q5, 1, none⟩ (.slice B61 r.key.length d61)).setCell ⟨q5, 2, none⟩ (.slice B62 r.val.length d62)).setCell ⟨q5, 3, none⟩ (.int .i64 r.x)) ((((w6x.setCell ⟨q5, 0, none⟩ (.int .i64 r.kd)).setCell ⟨q5, 1, none⟩ (.slice B61 r.key.length d61)).setCell ⟨q5, 2, none⟩ (.slice B62 r.val.length d62)).setCell ⟨q5, 3, none⟩ (.int .i64 r.x)).heap.size B62 r.val) := ⟨HF6.out.1.stored HG7.out, HF6.out.2.stored HG7.out⟩
                  clear HG7 z0 z1 z2 z3 g0 g1 g2 g3
                  generalize ((((w6x.setCell ⟨q5, 0, none⟩ (.int .i64 r.kd)).setCell ⟨q5, 1, none⟩ (.slice B61 r.key.length d61)).setCell ⟨q5, 2, none⟩ (.slice B62 r.val.length d62)).setCell ⟨q5, 3, none⟩ (.int .i64 r.x)) = w7x at *
                  refine hK _ _ (HC21.out _ HB7.out) ?_
                  clear hK K
                  simp only [List.setIfInBounds_toArray, List.set_cons_zero, List.set_cons_succ]
                  refine held_take (i := 23) (v := ?_) (d := some 19) rfl rfl (by kernel_rfl) (by kernel_rfl) (by kernel_rfl) (fun _ _ _ h => h) (HC21.out _ HB7.out) ⟨?_, fun w hSw => ?_⟩ ?_
                  rotate_left 1
                  · rfl
                  · (go_simp; all_goals with_reducible rfl)
                  simp only [Act.put, List.setIfInBounds_toArray, List.set_cons_zero, List.set_cons_succ]
                  refine held_take (i := 24) (v := ?_) (d := some 20) rfl rfl (by kernel_rfl) (by kernel_rfl) (by kernel_rfl) (fun _ _ _ h => h) (HC21.out _ HB7.out) ⟨?_, fun w hSw => ?_⟩ ?_
                  rotate_left 1
                  · rfl
                  · (go_simp; all_goals with_reducible rfl)
                  simp only [Act.put, List.setIfInBounds_toArray, List.set_cons_zero, List.set_cons_succ]
                  refine wpAnyH_done (by kernel_rfl) ?_ _
                  (try go_wp2_with fail)
                  go_meet
                  exact ⟨_, _, _, _, _, rfl, rfl, rfl, HX7.out, HK7.out, HB7.out⟩
              · go_simp
                have HL8 : Hid (Below wa.heap.size wa (wa.alloc (.cells #[.int .i64 0, .slice none 0 0, .slice none 0 0, .int .i64 0] 38))) := (Below.refl _ _).alloc (Nat.le_refl _) _
                have HB8 := Lib.hid (HBa.out.trans (HL8.out.mono HBa.out.size))
                have HX8 := Lib.hid (heap_alloc_new wa (.cells #[.int .i64 0, .slice none 0 0, .slice none 0 0, .int .i64 0] 38))
                have HQ8 : Hid (w1.heap.size ≤ wa.heap.size) := HBa.out.size
                generalize wa.alloc (.cells #[.int .i64 0, .slice none 0 0, .slice none 0 0, .int .i64 0] 38) = w8x at *
                generalize wa.heap.size = q8 at *
                refine hK _ _ (HC21.out _ HB8.out) ?_
                clear hK K
                simp only [List.setIfInBounds_toArray, List.set_cons_zero, List.set_cons_succ]
                refine held_step (i := 15) rfl (by kernel_rfl) ?_ (fun K hK => ?_)
                · rfl
                go_simp
                refine (HBY.out _ HB8.out).mono ?_
                rintro e w9x ⟨A9, k9, rfl, hs9, hbs9, hb9⟩
                have HB9 := Lib.hid (HB8.out.trans (hb9.mono HB8.out.size))
                have HA9 := Lib.hid (And.intro hs9 hbs9)
                have HX9 := Lib.hid ((hb9.block _ (Array.getElem?_eq_some_iff.1 HX8.out).1).trans HX8.out)
                clear hs9 hbs9 hb9
                refine hK _ _ (HC21.out _ HB9.out) ?_
                clear hK K
                simp only [List.setIfInBounds_toArray, List.set_cons_zero, List.set_cons_succ]
                refine held_step (i := 16) rfl (by kernel_rfl) ?_ (fun K hK => ?_)
                · rfl
                go_simp
                refine (HDE.out _ _ _ HA9.out.1 HA9.out.2).mono ?_
                rintro e w10x ⟨B101, d101, B102, d102, rfl, h101, h102, hb10⟩
                have HB10 := Lib.hid (HB9.out.trans (hb10.mono HB9.out.size))
                have HK10 := Lib.hid (And.intro h101 h102)
                have HF10 : Hid (Off w10x q8 B101 r.key ∧ Off w10x q8 B102 r.val) := ⟨⟨_, _, h101, Nat.le_refl _, .inl (Array.getElem?_eq_some_iff.1 HX9.out).1⟩, ⟨_, _, h102, Nat.le_refl _, .inl (Array.getElem?_eq_some_iff.1 HX9.out).1⟩⟩
                have HX10 := Lib.hid ((hb10.block _ (Array.getElem?_eq_some_iff.1 HX9.out).1).trans HX9.out)
                clear h101 h102 hb10
                refine hK _ _ (HC21.out _ HB10.out) ?_
                clear hK K
                simp only [List.setIfInBounds_toArray, List.set_cons_zero, List.set_cons_succ]
                refine held_take (i := 17) (v := ?_) (d := some 92) rfl rfl (by kernel_rfl) (by kernel_rfl) (by kernel_rfl) (fun _ _ _ h => h) (HC21.out _ HB10.out) ⟨?_, fun w hSw => ?_⟩ ?_
                rotate_left 1
                · rfl
                · (go_simp; all_goals with_reducible rfl)
                simp only [Act.put, List.setIfInBounds_toArray, List.set_cons_zero, List.set_cons_succ]
                refine held_take (i := 18) (v := ?_) (d := some 110) rfl rfl (by kernel_rfl) (by kernel_rfl) (by kernel_rfl) (fun _ _ _ h => h) (HC21.out _ HB10.out) ⟨?_, fun w hSw => ?_⟩ ?_
                rotate_left 1
                · rfl
                · (go_simp; all_goals with_reducible rfl)
                simp only [Act.put, List.setIfInBounds_toArray, List.set_cons_zero, List.set_cons_succ]
                refine held_take (i := 19) (v := ?_) (d := some 111) rfl rfl (by kernel_rfl) (by kernel_rfl) (by kernel_rfl) (fun _ _ _ h => h) (HC21.out _ HB10.out) ⟨?_, fun w hSw => ?_⟩ ?_
                rotate_left 1
                · rfl
                · (go_simp; all_goals with_reducible rfl)
                simp only [Act.put, List.setIfInBounds_toArray, List.set_cons_zero, List.set_cons_succ]
                refine held_take (i := 20) (v := ?_) (d := some 112) rfl rfl (by kernel_rfl) (by kernel_rfl) (by kernel_rfl) (fun _ _ _ h => h) (HC21.out _ HB10.out) ⟨?_, fun w hSw => ?_⟩ ?_
                rotate_left 1
                · rfl
                · (go_simp; all_goals with_reducible rfl)
                simp only [Act.put, List.setIfInBounds_toArray, List.set_cons_zero, List.set_cons_succ]
                refine held_step (i := 22) rfl (by kernel_rfl) ?_ (fun K hK => ?_)
                · rfl
                obtain ⟨z0, z1, z2, z3⟩ := four_cells HX10.out
                obtain ⟨g0, g1, g2, g3⟩ := four_frozen HX10.out
                go_simp
                have HG11 : Hid (w10x.grownBy ((((w10x.setCell ⟨q8, 0, none⟩ (.int .i64 r.kd)).setCell ⟨q8, 1, none⟩ (.slice B101 r.key.length d101)).setCell ⟨q8, 2, none⟩ (.slice B102 r.val.length d102)).setCell ⟨q8, 3, none⟩ (.int .i64 r.x)) (some q8)) := stored_grown w10x q8 _ _ _ _
                have HX11 : Hid (((((w10x.setCell ⟨q8, 0, none⟩ (.int .i64 r.kd)).setCell ⟨q8, 1, none⟩ (.slice B101 r.key.length d101)).setCell ⟨q8, 2, none⟩ (.slice B102 r.val.length d102)).setCell ⟨q8, 3, none⟩ (.int .i64 r.x)).heap[q8]? = some (.cells #[.int .i64 r.kd, .slice B101 r.key.length d101, .slice B102 r.val.length d102, .int .i64 r.x] 38 (0, 0))) := stored HX10.out
                have HB11 : Hid (Below w1.heap.size w1 ((((w10x.setCell ⟨q8, 0, none⟩ (.int .i64 r.kd)).setCell ⟨q8, 1, none⟩ (.slice B101 r.key.length d101)).setCell ⟨q8, 2, none⟩ (.slice B102 r.val.length d102)).setCell ⟨q8, 3, none⟩ (.int .i64 r.x))) := HB10.out.trans (below_of_grown HG11.out HQ8.out HB10.out.size)
                have HK11 : Hid (Bs ((((w10x.setCell ⟨q8, 0, none⟩ (.int .i64 r.kd)).setCell ⟨q8, 1, none⟩ (.slice B101 r.key.length d101)).setCell ⟨q8, 2, none⟩ (.slice B102 r.val.length d102)).setCell ⟨q8, 3, none⟩ (.int .i64 r.x)) ((((w10x.setCell ⟨q8, 0, none⟩ (.int .i64 r.kd)).setCell ⟨q8, 1, none⟩ (.slice B101 r.key.length d101)).setCell ⟨q8, 2, none⟩ (.slice B102 r.val.length d102)).setCell ⟨q8, 3, none⟩ (.int .i64 r.x)).heap.size B101 r.key ∧ Bs ((((w10x.setCell ⟨q8, 0, none⟩ (.int .i64 r.kd)).setCell ⟨q8, 1, none⟩ (.slice B101 r.key.length d101)).setCell ⟨q8, 2, none⟩ (.slice B102 r.val.length d102)).setCell ⟨q8, 3, none⟩ (.int .i64 r.x)) ((((w10x.setCell ⟨q8, 0, none⟩ (.int .i64 r.kd)).setCell ⟨q8, 1, none⟩ (.slice B101 r.key.length d101)).setCell ⟨q8, 2, none⟩ (.slice B102 r.val.length d102)).setCell ⟨q8, 3, none⟩ (.int .i64 r.x)).heap.size B102 r.val) := ⟨HF10.out.1.stored HG11.out, HF10.out.2.stored HG11.out⟩
                clear HG11 z0 z1 z2 z3 g0 g1 g2 g3
                generalize ((((w10x.setCell ⟨q8, 0, none⟩ (.int .i64 r.kd)).setCell ⟨q8, 1, none⟩ (.slice B101 r.key.length d101)).setCell ⟨q8, 2, none⟩ (.slice B102 r.val.length d102)).setCell ⟨q8, 3, none⟩ (.int .i64 r.x)) = w11x at *
                refine hK _ _ (HC21.out _ HB11.out) ?_
                clear hK K
                simp only [List.setIfInBounds_toArray, List.set_cons_zero, List.set_cons_succ]
                refine held_take (i := 23) (v := ?_) (d := some 19) rfl rfl (by kernel_rfl) (by kernel_rfl) (by kernel_rfl) (fun _ _ _ h => h) (HC21.out _ HB11.out) ⟨?_, fun w hSw => ?_⟩ ?_
                rotate_left 1
                · rfl
                · (go_simp; all_goals with_reducible rfl)
                simp only [Act.put, List.setIfInBounds_toArray, List.set_cons_zero, List.set_cons_succ]
                refine held_take (i := 24) (v := ?_) (d := some 20) rfl rfl (by kernel_rfl) (by kernel_rfl) (by kernel_rfl) (fun _ _ _ h => h) (HC21.out _ HB11.out) ⟨?_, fun w hSw => ?_⟩ ?_
                rotate_left 1
                · rfl
                · (go_simp; all_goals with_reducible rfl)
                simp only [Act.put, List.setIfInBounds_toArray, List.set_cons_zero, List.set_cons_succ]
                refine wpAnyH_done (by kernel_rfl) ?_ _
                (try go_wp2_with fail)
                go_meet
                exact ⟨_, _, _, _, _, rfl, rfl, rfl, HX11.out, HK11.out, HB11.out⟩
            case rest =>
              obtain ⟨q, B1, d1, B2, d2, rfl, rfl, rfl, HQ, HK, HB⟩ := hcut
              generalize wc = w2 at *
              go_upto_region 22 with fail
              have HLD : Hid (Below w2.heap.size w2 w2.drew) := below_drewN w2 1
              have HBa : Hid (Below w1.heap.size w1 w2.drew) := HB.out.trans (HLD.out.mono HB.out.size)
              have HQa := Lib.hid ((HLD.out.block q (Array.getElem?_eq_some_iff.1 HQ.out).1).trans HQ.out)
              refine wp_region_held_drew (S := fun W => W.heap[q]? = some (.cells #[.int .i64 r.kd, .slice B1 r.key.length d1, .slice B2 r.val.length d2, .int .i64 r.x] 38 (0, 0)) ∧ W.cell? (a10.add j) = some (.int .i64 (nr : Int)) ∧ W.cell? (a11.add (j * 4)) = some (.int .i64 r.kd) ∧ W.cell? ⟨(a11.add (j * 4)).block, (a11.add (j * 4)).off + 1, none⟩ = some (.slice r.A1 r.n1 r.c1) ∧ W.cell? ⟨(a11.add (j * 4)).block, (a11.add (j * 4)).off + 2, none⟩ = some (.slice r.A2 r.n2 r.c2) ∧ W.cell? ⟨(a11.add (j * 4)).block, (a11.add (j * 4)).off + 3, none⟩ = some (.int .i64 r.x)) (by kernel_rfl) (⟨HQa.out, HC22.out _ HBa.out⟩) (fun hH => ?_)
              change wpAnyH _ _ _ _ _ 19 #[false, false, false, false, false, false, false, false, false, false, false, false, false, false, false, false, false, false, false] _ _
              refine held_take (i := 0) (v := ?_) (d := some 113) rfl rfl (by kernel_rfl) (by kernel_rfl) (by kernel_rfl) (fun _ _ _ h => h) hH ⟨?_, fun w hSw => ?_⟩ ?_
              rotate_left 1
              · rfl
              · (go_simp; all_goals with_reducible rfl)
              simp only [Act.put, List.setIfInBounds_toArray, List.set_cons_zero, List.set_cons_succ]
              refine held_take (i := 1) (v := ?_) (d := some 114) rfl rfl (by kernel_rfl) (by kernel_rfl) (by kernel_rfl) (fun _ _ _ h => h) hH ⟨?_, fun w hSw => ?_⟩ ?_
              rotate_left 1
              · rfl
              · (go_simp; all_goals with_reducible rfl)
              simp only [Act.put, List.setIfInBounds_toArray, List.set_cons_zero, List.set_cons_succ]
              refine held_take (i := 2) (v := ?_) (d := some 115) rfl rfl (by kernel_rfl) (by kernel_rfl) (by kernel_rfl) (fun _ _ _ h => h) hH ⟨?_, fun w hSw => ?_⟩ ?_
              rotate_left 1
              · rfl
              · (go_simp; all_goals with_reducible rfl)
              simp only [Act.put, List.setIfInBounds_toArray, List.set_cons_zero, List.set_cons_succ]
              first
                | refine held_skip (i := 3) (d := some 116) rfl rfl (by kernel_rfl) (by kernel_rfl) (by kernel_rfl) (fun _ _ _ h => h) hH ?_ ?_
                  · rfl
                  simp only [Act.put, List.setIfInBounds_toArray, List.set_cons_zero, List.set_cons_succ]
                | refine held_take (i := 3) (v := ?_) (d := some 116) rfl rfl (by kernel_rfl) (by kernel_rfl) (by kernel_rfl) (fun _ _ _ h => h) hH ⟨?_, fun w hSw => ?_⟩ ?_
                  rotate_left 1
                  · rfl
                  · (go_simp; all_goals with_reducible rfl)
                  simp only [Act.put, List.setIfInBounds_toArray, List.set_cons_zero, List.set_cons_succ]
              first
                | refine held_skip (i := 4) (d := some 117) rfl rfl (by kernel_rfl) (by kernel_rfl) (by kernel_rfl) (fun _ _ _ h => h) hH ?_ ?_
                  · rfl
                  simp only [Act.put, List.setIfInBounds_toArray, List.set_cons_zero, List.set_cons_succ]
                | refine held_take (i := 4) (v := ?_) (d := some 117) rfl rfl (by kernel_rfl) (by kernel_rfl) (by kernel_rfl) (fun _ _ _ h => h) hH ⟨?_, fun w hSw => ?_⟩ ?_
                  rotate_left 1
                  · rfl
                  · (go_simp; all_goals with_reducible rfl)
                  simp only [Act.put, List.setIfInBounds_toArray, List.set_cons_zero, List.set_cons_succ]
              first
                | refine held_skip (i := 5) (d := some 118) rfl rfl (by kernel_rfl) (by kernel_rfl) (by kernel_rfl) (fun _ _ _ h => h) hH ?_ ?_
                  · rfl
                  simp only [Act.put, List.setIfInBounds_toArray, List.set_cons_zero, List.set_cons_succ]
                | refine held_take (i := 5) (v := ?_) (d := some 118) rfl rfl (by kernel_rfl) (by kernel_rfl) (by kernel_rfl) (fun _ _ _ h => h) hH ⟨?_, fun w hSw => ?_⟩ ?_
                  rotate_left 1
                  · rfl
                  · (go_simp; all_goals with_reducible rfl)
                  simp only [Act.put, List.setIfInBounds_toArray, List.set_cons_zero, List.set_cons_succ]
              first
                | refine held_skip (i := 6) (d := some 119) rfl rfl (by kernel_rfl) (by kernel_rfl) (by kernel_rfl) (fun _ _ _ h => h) hH ?_ ?_
                  · rfl
                  simp only [Act.put, List.setIfInBounds_toArray, List.set_cons_zero, List.set_cons_succ]
                | refine held_take (i := 6) (v := ?_) (d := some 119) rfl rfl (by kernel_rfl) (by kernel_rfl) (by kernel_rfl) (fun _ _ _ h => h) hH ⟨?_, fun w hSw => ?_⟩ ?_
                  rotate_left 1
                  · rfl
                  · obtain ⟨y, x0, x1, x2, x3, x4⟩ := hSw
                    obtain ⟨y0, y1, y2, y3⟩ := four_cells y
                    (go_simp; all_goals with_reducible rfl)
                  simp only [Act.put, List.setIfInBounds_toArray, List.set_cons_zero, List.set_cons_succ]
              first
                | refine held_skip (i := 7) (d := some 120) rfl rfl (by kernel_rfl) (by kernel_rfl) (by kernel_rfl) (fun _ _ _ h => h) hH ?_ ?_
                  · rfl
                  simp only [Act.put, List.setIfInBounds_toArray, List.set_cons_zero, List.set_cons_succ]
                | refine held_take (i := 7) (v := ?_) (d := some 120) rfl rfl (by kernel_rfl) (by kernel_rfl) (by kernel_rfl) (fun _ _ _ h => h) hH ⟨?_, fun w hSw => ?_⟩ ?_
                  rotate_left 1
                  · rfl
                  · obtain ⟨y, x0, x1, x2, x3, x4⟩ := hSw
                    obtain ⟨y0, y1, y2, y3⟩ := four_cells y
                    (go_simp; all_goals with_reducible rfl)
                  simp only [Act.put, List.setIfInBounds_toArray, List.set_cons_zero, List.set_cons_succ]
              first
                | refine held_skip (i := 8) (d := some 121) rfl rfl (by kernel_rfl) (by kernel_rfl) (by kernel_rfl) (fun _ _ _ h => h) hH ?_ ?_
                  · rfl
                  simp only [Act.put, List.setIfInBounds_toArray, List.set_cons_zero, List.set_cons_succ]
                | refine held_take (i := 8) (v := ?_) (d := some 121) rfl rfl (by kernel_rfl) (by kernel_rfl) (by kernel_rfl) (fun _ _ _ h => h) hH ⟨?_, fun w hSw => ?_⟩ ?_
                  rotate_left 1
                  · rfl
                  · (go_simp; all_goals with_reducible rfl)
                  simp only [Act.put, List.setIfInBounds_toArray, List.set_cons_zero, List.set_cons_succ]
              refine held_take (i := 9) (v := ?_) (d := some 122) rfl rfl (by kernel_rfl) (by kernel_rfl) (by kernel_rfl) (fun _ _ _ h => h) hH ⟨?_, fun w hSw => ?_⟩ ?_
              rotate_left 1
              · rfl
              · (go_simp; all_goals with_reducible rfl)
              simp only [Act.put, List.setIfInBounds_toArray, List.set_cons_zero, List.set_cons_succ]
              refine held_take (i := 10) (v := ?_) (d := some 123) rfl rfl (by kernel_rfl) (by kernel_rfl) (by kernel_rfl) (fun _ _ _ h => h) hH ⟨?_, fun w hSw => ?_⟩ ?_
              rotate_left 1
              · rfl
              · (go_simp; all_goals with_reducible rfl)
              simp only [Act.put, List.setIfInBounds_toArray, List.set_cons_zero, List.set_cons_succ]
              first
                | refine held_skip (i := 11) (d := some 124) rfl rfl (by kernel_rfl) (by kernel_rfl) (by kernel_rfl) (fun _ _ _ h => h) hH ?_ ?_
                  · rfl
                  simp only [Act.put, List.setIfInBounds_toArray, List.set_cons_zero, List.set_cons_succ]
                | refine held_take (i := 11) (v := ?_) (d := some 124) rfl rfl (by kernel_rfl) (by kernel_rfl) (by kernel_rfl) (fun _ _ _ h => h) hH ⟨?_, fun w hSw => ?_⟩ ?_
                  rotate_left 1
                  · rfl
                  · obtain ⟨y, x0, x1, x2, x3, x4⟩ := hSw
                    obtain ⟨y0, y1, y2, y3⟩ := four_cells y
                    (go_simp; all_goals with_reducible rfl)
                  simp only [Act.put, List.setIfInBounds_toArray, List.set_cons_zero, List.set_cons_succ]
              first
                | refine held_skip (i := 12) (d := some 125) rfl rfl (by kernel_rfl) (by kernel_rfl) (by kernel_rfl) (fun _ _ _ h => h) hH ?_ ?_
                  · rfl
                  simp only [Act.put, List.setIfInBounds_toArray, List.set_cons_zero, List.set_cons_succ]
                | refine held_take (i := 12) (v := ?_) (d := some 125) rfl rfl (by kernel_rfl) (by kernel_rfl) (by kernel_rfl) (fun _ _ _ h => h) hH ⟨?_, fun w hSw => ?_⟩ ?_
                  rotate_left 1
                  · rfl
                  · (go_simp; all_goals with_reducible rfl)
                  simp only [Act.put, List.setIfInBounds_toArray, List.set_cons_zero, List.set_cons_succ]
              first
                | refine held_skip (i := 13) (d := some 126) rfl rfl (by kernel_rfl) (by kernel_rfl) (by kernel_rfl) (fun _ _ _ h => h) hH ?_ ?_
                  · rfl
                  simp only [Act.put, List.setIfInBounds_toArray, List.set_cons_zero, List.set_cons_succ]
                | refine held_take (i := 13) (v := ?_) (d := some 126) rfl rfl (by kernel_rfl) (by kernel_rfl) (by kernel_rfl) (fun _ _ _ h => h) hH ⟨?_, fun w hSw => ?_⟩ ?_
                  rotate_left 1
                  · rfl
                  · (go_simp; all_goals with_reducible rfl)
                  simp only [Act.put, List.setIfInBounds_toArray, List.set_cons_zero, List.set_cons_succ]
              first
                | refine held_skip (i := 14) (d := some 127) rfl rfl (by kernel_rfl) (by kernel_rfl) (by kernel_rfl) (fun _ _ _ h => h) hH ?_ ?_
                  · rfl
                  simp only [Act.put, List.setIfInBounds_toArray, List.set_cons_zero, List.set_cons_succ]
                | refine held_take (i := 14) (v := ?_) (d := some 127) rfl rfl (by kernel_rfl) (by kernel_rfl) (by kernel_rfl) (fun _ _ _ h => h) hH ⟨?_, fun w hSw => ?_⟩ ?_
                  rotate_left 1
                  · rfl
                  · obtain ⟨y, x0, x1, x2, x3, x4⟩ := hSw
                    obtain ⟨y0, y1, y2, y3⟩ := four_cells y
                    (go_simp; all_goals with_reducible rfl)
                  simp only [Act.put, List.setIfInBounds_toArray, List.set_cons_zero, List.set_cons_succ]
              first
                | refine held_skip (i := 15) (d := some 128) rfl rfl (by kernel_rfl) (by kernel_rfl) (by kernel_rfl) (fun _ _ _ h => h) hH ?_ ?_
                  · rfl
                  simp only [Act.put, List.setIfInBounds_toArray, List.set_cons_zero, List.set_cons_succ]
                | refine held_take (i := 15) (v := ?_) (d := some 128) rfl rfl (by kernel_rfl) (by kernel_rfl) (by kernel_rfl) (fun _ _ _ h => h) hH ⟨?_, fun w hSw => ?_⟩ ?_
                  rotate_left 1
                  · rfl
                  · obtain ⟨y, x0, x1, x2, x3, x4⟩ := hSw
                    obtain ⟨y0, y1, y2, y3⟩ := four_cells y
                    (go_simp; all_goals with_reducible rfl)
                  simp only [Act.put, List.setIfInBounds_toArray, List.set_cons_zero, List.set_cons_succ]
              first
                | refine held_skip (i := 16) (d := some 129) rfl rfl (by kernel_rfl) (by kernel_rfl) (by kernel_rfl) (fun _ _ _ h => h) hH ?_ ?_
                  · rfl
                  simp only [Act.put, List.setIfInBounds_toArray, List.set_cons_zero, List.set_cons_succ]
                | refine held_step (i := 16) rfl (by kernel_rfl) ?_ (fun K hK => ?_)
                  · rfl
                  clear hH
                  go_simp
                  refine (HEQ.out _ _ _ _ _ HBa.out ⟨(HK.out.1.below HLD.out (Nat.le_refl _)).more HLD.out.size, (HK.out.2.below HLD.out (Nat.le_refl _)).more HLD.out.size⟩).mono ?_
                  rintro e w3 ⟨rfl, hb3⟩
                  have HB3 := Lib.hid (HBa.out.trans (hb3.mono HBa.out.size))
                  have HQ3 := Lib.hid ((hb3.block q (Array.getElem?_eq_some_iff.1 HQa.out).1).trans HQa.out)
                  clear hb3
                  have hH := And.intro HQ3.out (HC22.out _ HB3.out)
                  refine hK _ _ hH ?_
                  clear hK K
                  simp only [List.setIfInBounds_toArray, List.set_cons_zero, List.set_cons_succ]
              first
                | refine held_skip (i := 17) (d := some 130) rfl rfl (by kernel_rfl) (by kernel_rfl) (by kernel_rfl) (fun _ _ _ h => h) hH ?_ ?_
                  · rfl
                  simp only [Act.put, List.setIfInBounds_toArray, List.set_cons_zero, List.set_cons_succ]
                | refine held_take (i := 17) (v := ?_) (d := some 130) rfl rfl (by kernel_rfl) (by kernel_rfl) (by kernel_rfl) (fun _ _ _ h => h) hH ⟨?_, fun w hSw => ?_⟩ ?_
                  rotate_left 1
                  · rfl
                  · (go_simp; all_goals with_reducible rfl)
                  simp only [Act.put, List.setIfInBounds_toArray, List.set_cons_zero, List.set_cons_succ]
              refine held_take (i := 18) (v := ?_) (d := some 131) rfl rfl (by kernel_rfl) (by kernel_rfl) (by kernel_rfl) (fun _ _ _ h => h) hH ⟨?_, fun w hSw => ?_⟩ ?_
              rotate_left 1
              · rfl
              · (go_simp; all_goals with_reducible rfl)
              simp only [Act.put, List.setIfInBounds_toArray, List.set_cons_zero, List.set_cons_succ]
              refine wpAnyH_done (by kernel_rfl) ?_ _
              go_wp2
              go_roundw
              case rel => exact ⟨j + 1, by go_num, by omega, HB3.out⟩
              case measure => simp [Go.RowKit.intOf]; omega
          · obtain rfl : j = ds.length := by omega
            go_wp2_with fail
            refine (HA.out _ (HUP.out.trans (HB.out.mono HUP.out.size))).mono ?_
            rintro e w5 ⟨rfl, hb5⟩
            have HZ := Lib.hid ((HUP.out.trans (HB.out.mono HUP.out.size)).trans (hb5.mono (HUP.out.trans (HB.out.mono HUP.out.size)).size))
            go_wp2
            go_ret
            exact ⟨rfl, HZ.out⟩
      · skip
        obtain ⟨A9, c9, rfl, h9⟩ := ints_open HST.out.o
        obtain ⟨A10, c10, rfl, h10⟩ := ints_open HST.out.n
        obtain ⟨A11, c11, rfl, h11⟩ := recs_open HST.out.r
        have HDN := Lib.hid (done_at HALL.out)
        have HUP := Lib.hid HST.out.up
        have HBOX := Lib.hid HST.out.box.1
        have HP := Lib.hid HST.out.p
        have hst := HFIT.out.short
        have HLT := Lib.hid HFIT.out.lt
        have H9 := Lib.hid h9
        have H10 := Lib.hid h10
        have H11 := Lib.hid h11
        clear h9 h10 h11 HST HALL HFIT HPUT HFP
        generalize wr = w1 at *
        go_wp2_with fail
        go_loopw [17, 89] (fun _ jv wx => ∃ j : Nat, jv = .int .i64 (j : Int) ∧ j ≤ ds.length ∧ Hid (Below w1.heap.size w1 wx)) (fun _ jv _ => ds.length - (Go.RowKit.intOf jv).toNat)
        case atStart => exact ⟨0, rfl, Nat.zero_le _, Below.refl _ _⟩
        case round =>
          obtain ⟨j, rfl, hjm, HB⟩ := hrel
          by_cases hj : j < ds.length
          · obtain ⟨off, r, e1, e2, e3, hck, hpl, hle, hsub, hrd⟩ := HDN.out j hj
            obtain ⟨a9, rfl, hc9⟩ := H9.out j hj
            obtain ⟨a10, rfl, hc10⟩ := H10.out j hj
            obtain ⟨a11, rfl, hc11⟩ := H11.out j hj
            rw [e1] at hc9
            rw [e2] at hc10
            have hjI : (j : Int) < ((ds.length : Nat) : Int) := by omega
            have HC21 : Hid (∀ W, Below w1.heap.size w1 W → W.cell? ⟨w.heap.size, 1, none⟩ = some (.int .i64 b) ∧ W.cell? (a9.add j) = some (.int .i64 (off : Int)) ∧ W.cell? (a10.add j) = some (.int .i64 ((Rc.len r.r : Nat) : Int))) := fun W hW => ⟨cell_on hW (four_cells HBOX.out).2.1, hc9 W hW, hc10 W hW⟩
            have HC22 : Hid (∀ W, Below w1.heap.size w1 W → W.cell? (a10.add j) = some (.int .i64 ((Rc.len r.r : Nat) : Int)) ∧ W.cell? (a11.add (j * 4)) = some (.int .i64 r.kd) ∧ W.cell? ⟨(a11.add (j * 4)).block, (a11.add (j * 4)).off + 1, none⟩ = some (.slice r.A1 r.n1 r.c1) ∧ W.cell? ⟨(a11.add (j * 4)).block, (a11.add (j * 4)).off + 2, none⟩ = some (.slice r.A2 r.n2 r.c2) ∧ W.cell? ⟨(a11.add (j * 4)).block, (a11.add (j * 4)).off + 3, none⟩ = some (.int .i64 r.x)) := fun W hW => ⟨hc10 W hW, hc11 W hW r e3⟩
            have HBY : Hid (∀ W, Below w1.heap.size w1 W → Calls Tryd.prog 21 #[.pointer (some ⟨g, 0, none⟩), .int .i64 (off : Int), .int .i64 ((Rc.len r.r : Nat) : Int)] W fun e w' => ∃ A c, e = .returned (.slice A (Rc.len r.r) c) ∧ SlIs A (Rc.len r.r) c ∧ Bs w' w'.heap.size A (Rc.enc b 7 (off : Int) r.r) ∧ Below W.heap.size W w') := fun W hW =>
              bytes_enc off r (HP.out.new hW) HLT.out hst hle hsub
            have HDE : Hid (∀ W A c, SlIs A (Rc.len r.r) c → Bs W W.heap.size A (Rc.enc b 7 (off : Int) r.r) → Calls Tryd.prog 26 #[.int .i64 b, .int .i64 7, .int .i64 (off : Int), .slice A (Rc.len r.r) c] W fun e w' => ∃ A1 c1 A2 c2, e = .returned (.tuple #[.agg #[.int .i64 r.kd, .slice A1 r.key.length c1, .slice A2 r.val.length c2, .int .i64 r.x], .int .i64 ((Rc.len r.r : Nat) : Int), .bool true]) ∧ BsIn w' W.heap.size w'.heap.size A1 r.key ∧ BsIn w' W.heap.size w'.heap.size A2 r.val ∧ Below W.heap.size W w') := fun W A c hs hb =>
              refdecode_enc b 7 off r.r A _ c W hck hpl (by decide) hs rfl hb
            have HEQ : Hid (∀ W B1 d1 B2 d2, Below w1.heap.size w1 W → Bs W W.heap.size B1 r.key ∧ Bs W W.heap.size B2 r.val → Calls Tryd.prog 27 #[.agg #[.int .i64 r.kd, .slice B1 r.key.length d1, .slice B2 r.val.length d2, .int .i64 r.x], .agg #[.int .i64 r.kd, .slice r.A1 r.n1 r.c1, .slice r.A2 r.n2 r.c2, .int .i64 r.x]] W fun e w' => e = .returned (.bool true) ∧ Below W.heap.size W w') := fun W B1 d1 B2 d2 hW hB =>
              eq_done r hck (hrd.below (HUP.out.trans (hW.mono HUP.out.size)) (Nat.le_refl _)) (HUP.out.trans (hW.mono HUP.out.size)).size hB
            clear e1 e2 e3 hck hpl hle hsub hrd hc9 hc10 hc11 HDN H9 H10 H11 HP HBOX HLT
            generalize Rc.len r.r = nr at *
            go_wp2_with fail
            go_upto_region 21 with fail
            go_cut [18, 19, 20] (fun v18 v19 v20 wx => ∃ q A1 d1 A2 d2, v18 = .pointer (some ⟨q, 0, none⟩) ∧ v19 = .int .i64 (nr : Int) ∧ v20 = .bool true ∧ Hid (wx.heap[q]? = some (.cells #[.int .i64 r.kd, .slice A1 r.key.length d1, .slice A2 r.val.length d2, .int .i64 r.x] 38 (0, 0))) ∧ Hid (Bs wx wx.heap.size A1 r.key ∧ Bs wx wx.heap.size A2 r.val) ∧ Hid (Below w1.heap.size w1 wx))
            case first =>
              have HBa : Hid (Below w1.heap.size w1 wr.drew) := HB.out.trans ((below_drewN wr 1).mono HB.out.size)
              refine wp_region_held_drew (S := fun W => W.cell? ⟨w.heap.size, 1, none⟩ = some (.int .i64 b) ∧ W.cell? (a9.add j) = some (.int .i64 (off : Int)) ∧ W.cell? (a10.add j) = some (.int .i64 (nr : Int))) (by kernel_rfl) (HC21.out _ HBa.out) (fun hH => ?_)
              change wpAnyH _ _ _ _ _ 25 #[false, false, false, false, false, false, false, false, false, false, false, false, false, false, false, false, false, false, false, false, false, false, false, false, false] _ _
              clear hH
              generalize wr.drew = wa at *
              refine held_take (i := 0) (v := ?_) (d := some 93) rfl rfl (by kernel_rfl) (by kernel_rfl) (by kernel_rfl) (fun _ _ _ h => h) (HC21.out _ HBa.out) ⟨?_, fun w hSw => ?_⟩ ?_
              rotate_left 1
              · rfl
              · (go_simp; all_goals with_reducible rfl)
              simp only [Act.put, List.setIfInBounds_toArray, List.set_cons_zero, List.set_cons_succ]
              refine held_take (i := 1) (v := ?_) (d := some 94) rfl rfl (by kernel_rfl) (by kernel_rfl) (by kernel_rfl) (fun _ _ _ h => h) (HC21.out _ HBa.out) ⟨?_, fun w hSw => ?_⟩ ?_
              rotate_left 1
              · rfl
              · obtain ⟨y0, y1, y2⟩ := hSw
                (go_simp; all_goals with_reducible rfl)
              simp only [Act.put, List.setIfInBounds_toArray, List.set_cons_zero, List.set_cons_succ]
              refine held_take (i := 2) (v := ?_) (d := some 95) rfl rfl (by kernel_rfl) (by kernel_rfl) (by kernel_rfl) (fun _ _ _ h => h) (HC21.out _ HBa.out) ⟨?_, fun w hSw => ?_⟩ ?_
              rotate_left 1
              · rfl
              · (go_simp; all_goals with_reducible rfl)
              simp only [Act.put, List.setIfInBounds_toArray, List.set_cons_zero, List.set_cons_succ]
              refine held_take (i := 3) (v := ?_) (d := some 96) rfl rfl (by kernel_rfl) (by kernel_rfl) (by kernel_rfl) (fun _ _ _ h => h) (HC21.out _ HBa.out) ⟨?_, fun w hSw => ?_⟩ ?_
              rotate_left 1
              · rfl
              · (go_simp; all_goals with_reducible rfl)
              simp only [Act.put, List.setIfInBounds_toArray, List.set_cons_zero, List.set_cons_succ]
              refine held_take (i := 4) (v := ?_) (d := some 97) rfl rfl (by kernel_rfl) (by kernel_rfl) (by kernel_rfl) (fun _ _ _ h => h) (HC21.out _ HBa.out) ⟨?_, fun w hSw => ?_⟩ ?_
              rotate_left 1
              · rfl
              · obtain ⟨y0, y1, y2⟩ := hSw
                (go_simp; all_goals with_reducible rfl)
              simp only [Act.put, List.setIfInBounds_toArray, List.set_cons_zero, List.set_cons_succ]
              refine held_take (i := 5) (v := ?_) (d := some 98) rfl rfl (by kernel_rfl) (by kernel_rfl) (by kernel_rfl) (fun _ _ _ h => h) (HC21.out _ HBa.out) ⟨?_, fun w hSw => ?_⟩ ?_
              rotate_left 1
              · rfl
              · obtain ⟨y0, y1, y2⟩ := hSw
                (go_simp; all_goals with_reducible rfl)
              simp only [Act.put, List.setIfInBounds_toArray, List.set_cons_zero, List.set_cons_succ]
              refine held_take (i := 6) (v := ?_) (d := some 99) rfl rfl (by kernel_rfl) (by kernel_rfl) (by kernel_rfl) (fun _ _ _ h => h) (HC21.out _ HBa.out) ⟨?_, fun w hSw => ?_⟩ ?_
              rotate_left 1
              · rfl
              · (go_simp; all_goals with_reducible rfl)
              simp only [Act.put, List.setIfInBounds_toArray, List.set_cons_zero, List.set_cons_succ]
              refine held_take (i := 7) (v := ?_) (d := some 100) rfl rfl (by kernel_rfl) (by kernel_rfl) (by kernel_rfl) (fun _ _ _ h => h) (HC21.out _ HBa.out) ⟨?_, fun w hSw => ?_⟩ ?_
              rotate_left 1
              · rfl
              · (go_simp; all_goals with_reducible rfl)
              simp only [Act.put, List.setIfInBounds_toArray, List.set_cons_zero, List.set_cons_succ]
              refine held_take (i := 8) (v := ?_) (d := some 101) rfl rfl (by kernel_rfl) (by kernel_rfl) (by kernel_rfl) (fun _ _ _ h => h) (HC21.out _ HBa.out) ⟨?_, fun w hSw => ?_⟩ ?_
              rotate_left 1
              · rfl
              · (go_simp; all_goals with_reducible rfl)
              simp only [Act.put, List.setIfInBounds_toArray, List.set_cons_zero, List.set_cons_succ]
              refine held_take (i := 9) (v := ?_) (d := some 102) rfl rfl (by kernel_rfl) (by kernel_rfl) (by kernel_rfl) (fun _ _ _ h => h) (HC21.out _ HBa.out) ⟨?_, fun w hSw => ?_⟩ ?_
              rotate_left 1
              · rfl
              · obtain ⟨y0, y1, y2⟩ := hSw
                (go_simp; all_goals with_reducible rfl)
              simp only [Act.put, List.setIfInBounds_toArray, List.set_cons_zero, List.set_cons_succ]
              refine held_take (i := 10) (v := ?_) (d := some 103) rfl rfl (by kernel_rfl) (by kernel_rfl) (by kernel_rfl) (fun _ _ _ h => h) (HC21.out _ HBa.out) ⟨?_, fun w hSw => ?_⟩ ?_
              rotate_left 1
              · rfl
              · obtain ⟨y0, y1, y2⟩ := hSw
                (go_simp; all_goals with_reducible rfl)
              simp only [Act.put, List.setIfInBounds_toArray, List.set_cons_zero, List.set_cons_succ]
              refine held_take (i := 11) (v := ?_) (d := some 104) rfl rfl (by kernel_rfl) (by kernel_rfl) (by kernel_rfl) (fun _ _ _ h => h) (HC21.out _ HBa.out) ⟨?_, fun w hSw => ?_⟩ ?_
              rotate_left 1
              · rfl
              · (go_simp; all_goals with_reducible rfl)
              simp only [Act.put, List.setIfInBounds_toArray, List.set_cons_zero, List.set_cons_succ]
              refine held_take (i := 12) (v := ?_) (d := some 105) rfl rfl (by kernel_rfl) (by kernel_rfl) (by kernel_rfl) (fun _ _ _ h => h) (HC21.out _ HBa.out) ⟨?_, fun w hSw => ?_⟩ ?_
              rotate_left 1
              · rfl
              · (go_simp; all_goals with_reducible rfl)
              simp only [Act.put, List.setIfInBounds_toArray, List.set_cons_zero, List.set_cons_succ]
              refine held_take (i := 13) (v := ?_) (d := some 106) rfl rfl (by kernel_rfl) (by kernel_rfl) (by kernel_rfl) (fun _ _ _ h => h) (HC21.out _ HBa.out) ⟨?_, fun w hSw => ?_⟩ ?_
              rotate_left 1
              · rfl
              · obtain ⟨y0, y1, y2⟩ := hSw
                (go_simp; all_goals with_reducible rfl)
              simp only [Act.put, List.setIfInBounds_toArray, List.set_cons_zero, List.set_cons_succ]
              refine held_take (i := 14) (v := ?_) (d := some 107) rfl rfl (by kernel_rfl) (by kernel_rfl) (by kernel_rfl) (fun _ _ _ h => h) (HC21.out _ HBa.out) ⟨?_, fun w hSw => ?_⟩ ?_
              rotate_left 1
              · rfl
              · obtain ⟨y0, y1, y2⟩ := hSw
                (go_simp; all_goals with_reducible rfl)
              simp only [Act.put, List.setIfInBounds_toArray, List.set_cons_zero, List.set_cons_succ]
              refine hold_two (i := 15) (j := 21) rfl rfl (by kernel_rfl) (by rfl) (by rfl) (fun K hK => ?_) (fun K hK => ?_)
              · go_simp
                refine (HBY.out _ HBa.out).mono ?_
                rintro e w1x ⟨A1, k1, rfl, hs1, hbs1, hb1⟩
                have HB1 := Lib.hid (HBa.out.trans (hb1.mono HBa.out.size))
                have HA1 := Lib.hid (And.intro hs1 hbs1)
                clear hs1 hbs1 hb1
                refine hK _ _ (HC21.out _ HB1.out) ?_
                clear hK K
                simp only [List.setIfInBounds_toArray, List.set_cons_zero, List.set_cons_succ]
                refine hold_two (i := 16) (j := 21) rfl rfl (by kernel_rfl) (by rfl) (by rfl) (fun K hK => ?_) (fun K hK => ?_)
                · go_simp
                  refine (HDE.out _ _ _ HA1.out.1 HA1.out.2).mono ?_
                  rintro e w2x ⟨B21, d21, B22, d22, rfl, h21, h22, hb2⟩
                  have HB2 := Lib.hid (HB1.out.trans (hb2.mono HB1.out.size))
                  have HK2 := Lib.hid (And.intro h21 h22)
                  clear h21 h22 hb2
                  refine hK _ _ (HC21.out _ HB2.out) ?_
                  clear hK K
                  simp only [List.setIfInBounds_toArray, List.set_cons_zero, List.set_cons_succ]
                  refine held_take (i := 17) (v := ?_) (d := some 92) rfl rfl (by kernel_rfl) (by kernel_rfl) (by kernel_rfl) (fun _ _ _ h => h) (HC21.out _ HB2.out) ⟨?_, fun w hSw => ?_⟩ ?_
                  rotate_left 1
                  · rfl
                  · (go_simp; all_goals with_reducible rfl)
                  simp only [Act.put, List.setIfInBounds_toArray, List.set_cons_zero, List.set_cons_succ]
                  refine held_take (i := 18) (v := ?_) (d := some 110) rfl rfl (by kernel_rfl) (by kernel_rfl) (by kernel_rfl) (fun _ _ _ h => h) (HC21.out _ HB2.out) ⟨?_, fun w hSw => ?_⟩ ?_
                  rotate_left 1
                  · rfl
                  · (go_simp; all_goals with_reducible rfl)
                  simp only [Act.put, List.setIfInBounds_toArray, List.set_cons_zero, List.set_cons_succ]
                  refine held_take (i := 19) (v := ?_) (d := some 111) rfl rfl (by kernel_rfl) (by kernel_rfl) (by kernel_rfl) (fun _ _ _ h => h) (HC21.out _ HB2.out) ⟨?_, fun w hSw => ?_⟩ ?_
                  rotate_left 1
                  · rfl
                  · (go_simp; all_goals with_reducible rfl)
                  simp only [Act.put, List.setIfInBounds_toArray, List.set_cons_zero, List.set_cons_succ]
                  refine held_take (i := 20) (v := ?_) (d := some 112) rfl rfl (by kernel_rfl) (by kernel_rfl) (by kernel_rfl) (fun _ _ _ h => h) (HC21.out _ HB2.out) ⟨?_, fun w hSw => ?_⟩ ?_
                  rotate_left 1
                  · rfl
                  · (go_simp; all_goals with_reducible rfl)
                  simp only [Act.put, List.setIfInBounds_toArray, List.set_cons_zero, List.set_cons_succ]
                  refine held_step (i := 21) rfl (by kernel_rfl) ?_ (fun K hK => ?_)
                  · rfl
                  go_simp
                  have HL3 : Hid (Below w2x.heap.size w2x (w2x.alloc (.cells #[.int .i64 0, .slice none 0 0, .slice none 0 0, .int .i64 0] 38))) := (Below.refl _ _).alloc (Nat.le_refl _) _
                  have HB3 := Lib.hid (HB2.out.trans (HL3.out.mono HB2.out.size))
                  have HX3 := Lib.hid (heap_alloc_new w2x (.cells #[.int .i64 0, .slice none 0 0, .slice none 0 0, .int .i64 0] 38))
                  have HQ3 : Hid (w1.heap.size ≤ w2x.heap.size) := HB2.out.size
                  have HF3 : Hid (Off (w2x.alloc (.cells #[.int .i64 0, .slice none 0 0, .slice none 0 0, .int .i64 0] 38)) w2x.heap.size B21 r.key ∧ Off (w2x.alloc (.cells #[.int .i64 0, .slice none 0 0, .slice none 0 0, .int .i64 0] 38)) w2x.heap.size B22 r.val) := ⟨⟨_, _, HK2.out.1.keep (fun x _ hx => HL3.out.block x hx), HL3.out.size, .inr (Nat.le_refl _)⟩, ⟨_, _, HK2.out.2.keep (fun x _ hx => HL3.out.block x hx), HL3.out.size, .inr (Nat.le_refl _)⟩⟩
                  generalize w2x.alloc (.cells #[.int .i64 0, .slice none 0 0, .slice none 0 0, .int .i64 0] 38) = w3x at *
                  generalize w2x.heap.size = q3 at *
                  refine hK _ _ (HC21.out _ HB3.out) ?_
                  clear hK K
                  simp only [List.setIfInBounds_toArray, List.set_cons_zero, List.set_cons_succ]
                  refine held_step (i := 22) rfl (by kernel_rfl) ?_ (fun K hK => ?_)
                  · rfl
                  obtain ⟨z0, z1, z2, z3⟩ := four_cells HX3.out
                  obtain ⟨g0, g1, g2, g3⟩ := four_frozen HX3.out
                  go_simp
                  have HG4 : Hid (w3x.grownBy ((((w3x.setCell ⟨q3, 0, none⟩ (.int .i64 r.kd)).setCell ⟨q3, 1, none⟩ (.slice B21 r.key.length d21)).setCell ⟨q3, 2, none⟩ (.slice B22 r.val.length d22)).setCell ⟨q3, 3, none⟩ (.int .i64 r.x)) (some q3)) := stored_grown w3x q3 _ _ _ _
                  have HX4 : Hid (((((w3x.setCell ⟨q3, 0, none⟩ (.int .i64 r.kd)).setCell ⟨q3, 1, none⟩ (.slice B21 r.key.length d21)).setCell ⟨q3, 2, none⟩ (.slice B22 r.val.length d22)).setCell ⟨q3, 3, none⟩ (.int .i64 r.x)).heap[q3]? = some (.cells #[.int .i64 r.kd, .slice B21 r.key.length d21, .slice B22 r.val.length d22, .int .i64 r.x] 38 (0, 0))) := stored HX3.out
                  have HB4 : Hid (Below w1.heap.size w1 ((((w3x.setCell ⟨q3, 0, none⟩ (.int .i64 r.kd)).setCell ⟨q3, 1, none⟩ (.slice B21 r.key.length d21)).setCell ⟨q3, 2, none⟩ (.slice B22 r.val.length d22)).setCell ⟨q3, 3, none⟩ (.int .i64 r.x))) := HB3.out.trans (below_of_grown HG4.out HQ3.out HB3.out.size)
                  have HK4 : Hid (Bs ((((w3x.setCell ⟨q3, 0, none⟩ (.int .i64 r.kd)).setCell ⟨q3, 1, none⟩ (.slice B21 r.key.length d21)).setCell ⟨q3, 2, none⟩ (.slice B22 r.val.length d22)).setCell ⟨q3, 3, none⟩ (.int .i64 r.x)) ((((w3x.setCell ⟨q3, 0, none⟩ (.int .i64 r.kd)).setCell ⟨q3, 1, none⟩ (.slice B21 r.key.length d21)).setCell ⟨q3, 2, none⟩ (.slice B22 r.val.length d22)).setCell ⟨q3, 3, none⟩ (.int .i64 r.x)).heap.size B21 r.key ∧ Bs ((((w3x.setCell ⟨q3, 0, none⟩ (.int .i64 r.kd)).setCell ⟨q3, 1, none⟩ (.slice B21 r.key.length d21)).setCell ⟨q3, 2, none⟩ (.slice B22 r.val.length d22)).setCell ⟨q3, 3, none⟩ (.int .i64 r.x)) ((((w3x.setCell ⟨q3, 0, none⟩ (.int .i64 r.kd)).setCell ⟨q3, 1, none⟩ (.slice B21 r.key.length d21)).setCell ⟨q3, 2, none⟩ (.slice B22 r.val.length d22)).setCell ⟨q3, 3, none⟩ (.int .i64 r.x)).heap.size B22 r.val) := ⟨HF3.out.1.stored HG4.out, HF3.out.2.stored HG4.out⟩
                  clear HG4 z0 z1 z2 z3 g0 g1 g2 g3
                  generalize ((((w3x.setCell ⟨q3, 0, none⟩ (.int .i64 r.kd)).setCell ⟨q3, 1, none⟩ (.slice B21 r.key.length d21)).setCell ⟨q3, 2, none⟩ (.slice B22 r.val.length d22)).setCell ⟨q3, 3, none⟩ (.int .i64 r.x)) = w4x at *
                  refine hK _ _ (HC21.out _ HB4.out) ?_
                  clear hK K
                  simp only [List.setIfInBounds_toArray, List.set_cons_zero, List.set_cons_succ]
                  refine held_take (i := 23) (v := ?_) (d := some 19) rfl rfl (by kernel_rfl) (by kernel_rfl) (by kernel_rfl) (fun _ _ _ h => h) (HC21.out _ HB4.out) ⟨?_, fun w hSw => ?_⟩ ?_
                  rotate_left 1
                  · rfl
                  · (go_simp; all_goals with_reducible rfl)
                  simp only [Act.put, List.setIfInBounds_toArray, List.set_cons_zero, List.set_cons_succ]
                  refine held_take (i := 24) (v := ?_) (d := some 20) rfl rfl (by kernel_rfl) (by kernel_rfl) (by kernel_rfl) (fun _ _ _ h => h) (HC21.out _ HB4.out) ⟨?_, fun w hSw => ?_⟩ ?_
                  rotate_left 1
                  · rfl
                  · (go_simp; all_goals with_reducible rfl)
                  simp only [Act.put, List.setIfInBounds_toArray, List.set_cons_zero, List.set_cons_succ]
                  refine wpAnyH_done (by kernel_rfl) ?_ _
                  (try go_wp2_with fail)
                  go_meet
                  exact ⟨_, _, _, _, _, rfl, rfl, rfl, HX4.out, HK4.out, HB4.out⟩
                · go_simp
                  have HL5 : Hid (Below w1x.heap.size w1x (w1x.alloc (.cells #[.int .i64 0, .slice none 0 0, .slice none 0 0, .int .i64 0] 38))) := (Below.refl _ _).alloc (Nat.le_refl _) _
                  have HB5 := Lib.hid (HB1.out.trans (HL5.out.mono HB1.out.size))
                  have HX5 := Lib.hid (heap_alloc_new w1x (.cells #[.int .i64 0, .slice none 0 0, .slice none 0 0, .int .i64 0] 38))
                  have HQ5 : Hid (w1.heap.size ≤ w1x.heap.size) := HB1.out.size
                  have HA5 := Lib.hid (And.intro HA1.out.1 ((HA1.out.2.below HL5.out (Nat.le_refl _)).more HL5.out.size))
                  generalize w1x.alloc (.cells #[.int .i64 0, .slice none 0 0, .slice none 0 0, .int .i64 0] 38) = w5x at *
                  generalize w1x.heap.size = q5 at *
                  refine hK _ _ (HC21.out _ HB5.out) ?_
                  clear hK K
                  simp only [List.setIfInBounds_toArray, List.set_cons_zero, List.set_cons_succ]
                  refine held_step (i := 16) rfl (by kernel_rfl) ?_ (fun K hK => ?_)
                  · rfl
                  go_simp
                  refine (HDE.out _ _ _ HA5.out.1 HA5.out.2).mono ?_
                  rintro e w6x ⟨B61, d61, B62, d62, rfl, h61, h62, hb6⟩
                  have HB6 := Lib.hid (HB5.out.trans (hb6.mono HB5.out.size))
                  have HK6 := Lib.hid (And.intro h61 h62)
                  have HF6 : Hid (Off w6x q5 B61 r.key ∧ Off w6x q5 B62 r.val) := ⟨⟨_, _, h61, Nat.le_refl _, .inl (Array.getElem?_eq_some_iff.1 HX5.out).1⟩, ⟨_, _, h62, Nat.le_refl _, .inl (Array.getElem?_eq_some_iff.1 HX5.out).1⟩⟩
                  have HX6 := Lib.hid ((hb6.block _ (Array.getElem?_eq_some_iff.1 HX5.out).1).trans HX5.out)
                  clear h61 h62 hb6
                  refine hK _ _ (HC21.out _ HB6.out) ?_
                  clear hK K
                  simp only [List.setIfInBounds_toArray, List.set_cons_zero, List.set_cons_succ]
                  refine held_take (i := 17) (v := ?_) (d := some 92) rfl rfl (by kernel_rfl) (by kernel_rfl) (by kernel_rfl) (fun _ _ _ h => h) (HC21.out _ HB6.out) ⟨?_, fun w hSw => ?_⟩ ?_
                  rotate_left 1
                  · rfl
                  · (go_simp; all_goals with_reducible rfl)
                  simp only [Act.put, List.setIfInBounds_toArray, List.set_cons_zero, List.set_cons_succ]
                  refine held_take (i := 18) (v := ?_) (d := some 110) rfl rfl (by kernel_rfl) (by kernel_rfl) (by kernel_rfl) (fun _ _ _ h => h) (HC21.out _ HB6.out) ⟨?_, fun w hSw => ?_⟩ ?_
                  rotate_left 1
                  · rfl
                  · (go_simp; all_goals with_reducible rfl)
                  simp only [Act.put, List.setIfInBounds_toArray, List.set_cons_zero, List.set_cons_succ]
                  refine held_take (i := 19) (v := ?_) (d := some 111) rfl rfl (by kernel_rfl) (by kernel_rfl) (by kernel_rfl) (fun _ _ _ h => h) (HC21.out _ HB6.out) ⟨?_, fun w hSw => ?_⟩ ?_
                  rotate_left 1
                  · rfl
                  · (go_simp; all_goals with_reducible rfl)
                  simp only [Act.put, List.setIfInBounds_toArray, List.set_cons_zero, List.set_cons_succ]
                  refine held_take (i := 20) (v := ?_) (d := some 112) rfl rfl (by kernel_rfl) (by kernel_rfl) (by kernel_rfl) (fun _ _ _ h => h) (HC21.out _ HB6.out) ⟨?_, fun w hSw => ?_⟩ ?_
                  rotate_left 1
                  · rfl
                  · (go_simp; all_goals with_reducible rfl)
                  simp only [Act.put, List.setIfInBounds_toArray, List.set_cons_zero, List.set_cons_succ]
                  refine held_step (i := 22) rfl (by kernel_rfl) ?_ (fun K hK => ?_)
                  · rfl
                  obtain ⟨z0, z1, z2, z3⟩ := four_cells HX6.out
                  obtain ⟨g0, g1, g2, g3⟩ := four_frozen HX6.out
                  go_simp
                  have HG7 : Hid (w6x.grownBy ((((w6x.setCell ⟨q5, 0, none⟩ (.int .i64 r.kd)).setCell ⟨q5, 1, none⟩ (.slice B61 r.key.length d61)).setCell ⟨q5, 2, none⟩ (.slice B62 r.val.length d62)).setCell ⟨q5, 3, none⟩ (.int .i64 r.x)) (some q5)) := stored_grown w6x q5 _ _ _ _
                  have HX7 : Hid (((((w6x.setCell ⟨q5, 0, none⟩ (.int .i64 r.kd)).setCell ⟨q5, 1, none⟩ (.slice B61 r.key.length d61)).setCell ⟨q5, 2, none⟩ (.slice B62 r.val.length d62)).setCell ⟨q5, 3, none⟩ (.int .i64 r.x)).heap[q5]? = some (.cells #[.int .i64 r.kd, .slice B61 r.key.length d61, .slice B62 r.val.length d62, .int .i64 r.x] 38 (0, 0))) := stored HX6.out
                  have HB7 : Hid (Below w1.heap.size w1 ((((w6x.setCell ⟨q5, 0, none⟩ (.int .i64 r.kd)).setCell ⟨q5, 1, none⟩ (.slice B61 r.key.length d61)).setCell ⟨q5, 2, none⟩ (.slice B62 r.val.length d62)).setCell ⟨q5, 3, none⟩ (.int .i64 r.x))) := HB6.out.trans (below_of_grown HG7.out HQ5.out HB6.out.size)
                  have HK7 : Hid (Bs ((((w6x.setCell ⟨q5, 0, none⟩ (.int .i64 r.kd)).setCell ⟨q5, 1, none⟩ (.slice B61 r.key.length d61)).setCell ⟨q5, 2, none⟩ (.slice B62 r.val.length d62)).setCell ⟨q5, 3, none⟩ (.int .i64 r.x)) ((((w6x.setCell ⟨q5, 0, none⟩ (.int .i64 r.kd)).setCell ⟨q5, 1, none⟩ (.slice B61 r.key.length d61)).setCell ⟨q5, 2, none⟩ (.slice B62 r.val.length d62)).setCell ⟨q5, 3, none⟩ (.int .i64 r.x)).heap.size B61 r.key ∧ Bs ((((w6x.setCell ⟨q5, 0, none⟩ (.int .i64 r.kd)).setCell ⟨q5, 1, none⟩ (.slice B61 r.key.length d61)).setCell ⟨q5, 2, none⟩ (.slice B62 r.val.length d62)).setCell ⟨q5, 3, none⟩ (.int .i64 r.x)) ((((w6x.setCell ⟨q5, 0, none⟩ (.int .i64 r.kd)).setCell ⟨q5, 1, none⟩ (.slice B61 r.key.length d61)).setCell ⟨q5, 2, none⟩ (.slice B62 r.val.length d62)).setCell ⟨q5, 3, none⟩ (.int .i64 r.x)).heap.size B62 r.val) := ⟨HF6.out.1.stored HG7.out, HF6.out.2.stored HG7.out⟩
                  clear HG7 z0 z1 z2 z3 g0 g1 g2 g3
                  generalize ((((w6x.setCell ⟨q5, 0, none⟩ (.int .i64 r.kd)).setCell ⟨q5, 1, none⟩ (.slice B61 r.key.length d61)).setCell ⟨q5, 2, none⟩ (.slice B62 r.val.length d62)).setCell ⟨q5, 3, none⟩ (.int .i64 r.x)) = w7x at *
                  refine hK _ _ (HC21.out _ HB7.out) ?_
                  clear hK K
                  simp only [List.setIfInBounds_toArray, List.set_cons_zero, List.set_cons_succ]
                  refine held_take (i := 23) (v := ?_) (d := some 19) rfl rfl (by kernel_rfl) (by kernel_rfl) (by kernel_rfl) (fun _ _ _ h => h) (HC21.out _ HB7.out) ⟨?_, fun w hSw => ?_⟩ ?_
                  rotate_left 1
                  · rfl
                  · (go_simp; all_goals with_reducible rfl)
                  simp only [Act.put, List.setIfInBounds_toArray, List.set_cons_zero, List.set_cons_succ]
                  refine held_take (i := 24) (v := ?_) (d := some 20) rfl rfl (by kernel_rfl) (by kernel_rfl) (by kernel_rfl) (fun _ _ _ h => h) (HC21.out _ HB7.out) ⟨?_, fun w hSw => ?_⟩ ?_
                  rotate_left 1
                  · rfl
                  · (go_simp; all_goals with_reducible rfl)
                  simp only [Act.put, List.setIfInBounds_toArray, List.set_cons_zero, List.set_cons_succ]
                  refine wpAnyH_done (by kernel_rfl) ?_ _
                  (try go_wp2_with fail)
                  go_meet
                  exact ⟨_, _, _, _, _, rfl, rfl, rfl, HX7.out, HK7.out, HB7.out⟩
              · go_simp
                have HL8 : Hid (Below wa.heap.size wa (wa.alloc (.cells #[.int .i64 0, .slice none 0 0, .slice none 0 0, .int .i64 0] 38))) := (Below.refl _ _).alloc (Nat.le_refl _) _
                have HB8 := Lib.hid (HBa.out.trans (HL8.out.mono HBa.out.size))
                have HX8 := Lib.hid (heap_alloc_new wa (.cells #[.int .i64 0, .slice none 0 0, .slice none 0 0, .int .i64 0] 38))
                have HQ8 : Hid (w1.heap.size ≤ wa.heap.size) := HBa.out.size
                generalize wa.alloc (.cells #[.int .i64 0, .slice none 0 0, .slice none 0 0, .int .i64 0] 38) = w8x at *
                generalize wa.heap.size = q8 at *
                refine hK _ _ (HC21.out _ HB8.out) ?_
                clear hK K
                simp only [List.setIfInBounds_toArray, List.set_cons_zero, List.set_cons_succ]
                refine held_step (i := 15) rfl (by kernel_rfl) ?_ (fun K hK => ?_)
                · rfl
                go_simp
                refine (HBY.out _ HB8.out).mono ?_
                rintro e w9x ⟨A9, k9, rfl, hs9, hbs9, hb9⟩
                have HB9 := Lib.hid (HB8.out.trans (hb9.mono HB8.out.size))
                have HA9 := Lib.hid (And.intro hs9 hbs9)
                have HX9 := Lib.hid ((hb9.block _ (Array.getElem?_eq_some_iff.1 HX8.out).1).trans HX8.out)
                clear hs9 hbs9 hb9
                refine hK _ _ (HC21.out _ HB9.out) ?_
                clear hK K
                simp only [List.setIfInBounds_toArray, List.set_cons_zero, List.set_cons_succ]
                refine held_step (i := 16) rfl (by kernel_rfl) ?_ (fun K hK => ?_)
                · rfl
                go_simp
                refine (HDE.out _ _ _ HA9.out.1 HA9.out.2).mono ?_
                rintro e w10x ⟨B101, d101, B102, d102, rfl, h101, h102, hb10⟩
                have HB10 := Lib.hid (HB9.out.trans (hb10.mono HB9.out.size))
                have HK10 := Lib.hid (And.intro h101 h102)
                have HF10 : Hid (Off w10x q8 B101 r.key ∧ Off w10x q8 B102 r.val) := ⟨⟨_, _, h101, Nat.le_refl _, .inl (Array.getElem?_eq_some_iff.1 HX9.out).1⟩, ⟨_, _, h102, Nat.le_refl _, .inl (Array.getElem?_eq_some_iff.1 HX9.out).1⟩⟩
                have HX10 := Lib.hid ((hb10.block _ (Array.getElem?_eq_some_iff.1 HX9.out).1).trans HX9.out)
                clear h101 h102 hb10
                refine hK _ _ (HC21.out _ HB10.out) ?_
                clear hK K
                simp only [List.setIfInBounds_toArray, List.set_cons_zero, List.set_cons_succ]
                refine held_take (i := 17) (v := ?_) (d := some 92) rfl rfl (by kernel_rfl) (by kernel_rfl) (by kernel_rfl) (fun _ _ _ h => h) (HC21.out _ HB10.out) ⟨?_, fun w hSw => ?_⟩ ?_
                rotate_left 1
                · rfl
                · (go_simp; all_goals with_reducible rfl)
                simp only [Act.put, List.setIfInBounds_toArray, List.set_cons_zero, List.set_cons_succ]
                refine held_take (i := 18) (v := ?_) (d := some 110) rfl rfl (by kernel_rfl) (by kernel_rfl) (by kernel_rfl) (fun _ _ _ h => h) (HC21.out _ HB10.out) ⟨?_, fun w hSw => ?_⟩ ?_
                rotate_left 1
                · rfl
                · (go_simp; all_goals with_reducible rfl)
                simp only [Act.put, List.setIfInBounds_toArray, List.set_cons_zero, List.set_cons_succ]
                refine held_take (i := 19) (v := ?_) (d := some 111) rfl rfl (by kernel_rfl) (by kernel_rfl) (by kernel_rfl) (fun _ _ _ h => h) (HC21.out _ HB10.out) ⟨?_, fun w hSw => ?_⟩ ?_
                rotate_left 1
                · rfl
                · (go_simp; all_goals with_reducible rfl)
                simp only [Act.put, List.setIfInBounds_toArray, List.set_cons_zero, List.set_cons_succ]
                refine held_take (i := 20) (v := ?_) (d := some 112) rfl rfl (by kernel_rfl) (by kernel_rfl) (by kernel_rfl) (fun _ _ _ h => h) (HC21.out _ HB10.out) ⟨?_, fun w hSw => ?_⟩ ?_
                rotate_left 1
                · rfl
                · (go_simp; all_goals with_reducible rfl)
                simp only [Act.put, List.setIfInBounds_toArray, List.set_cons_zero, List.set_cons_succ]
                refine held_step (i := 22) rfl (by kernel_rfl) ?_ (fun K hK => ?_)
                · rfl
                obtain ⟨z0, z1, z2, z3⟩ := four_cells HX10.out
                obtain ⟨g0, g1, g2, g3⟩ := four_frozen HX10.out
                go_simp
                have HG11 : Hid (w10x.grownBy ((((w10x.setCell ⟨q8, 0, none⟩ (.int .i64 r.kd)).setCell ⟨q8, 1, none⟩ (.slice B101 r.key.length d101)).setCell ⟨q8, 2, none⟩ (.slice B102 r.val.length d102)).setCell ⟨q8, 3, none⟩ (.int .i64 r.x)) (some q8)) := stored_grown w10x q8 _ _ _ _
                have HX11 : Hid (((((w10x.setCell ⟨q8, 0, none⟩ (.int .i64 r.kd)).setCell ⟨q8, 1, none⟩ (.slice B101 r.key.length d101)).setCell ⟨q8, 2, none⟩ (.slice B102 r.val.length d102)).setCell ⟨q8, 3, none⟩ (.int .i64 r.x)).heap[q8]? = some (.cells #[.int .i64 r.kd, .slice B101 r.key.length d101, .slice B102 r.val.length d102, .int .i64 r.x] 38 (0, 0))) := stored HX10.out
                have HB11 : Hid (Below w1.heap.size w1 ((((w10x.setCell ⟨q8, 0, none⟩ (.int .i64 r.kd)).setCell ⟨q8, 1, none⟩ (.slice B101 r.key.length d101)).setCell ⟨q8, 2, none⟩ (.slice B102 r.val.length d102)).setCell ⟨q8, 3, none⟩ (.int .i64 r.x))) := HB10.out.trans (below_of_grown HG11.out HQ8.out HB10.out.size)
                have HK11 : Hid (Bs ((((w10x.setCell ⟨q8, 0, none⟩ (.int .i64 r.kd)).setCell ⟨q8, 1, none⟩ (.slice B101 r.key.length d101)).setCell ⟨q8, 2, none⟩ (.slice B102 r.val.length d102)).setCell ⟨q8, 3, none⟩ (.int .i64 r.x)) ((((w10x.setCell ⟨q8, 0, none⟩ (.int .i64 r.kd)).setCell ⟨q8, 1, none⟩ (.slice B101 r.key.length d101)).setCell ⟨q8, 2, none⟩ (.slice B102 r.val.length d102)).setCell ⟨q8, 3, none⟩ (.int .i64 r.x)).heap.size B101 r.key ∧ Bs ((((w10x.setCell ⟨q8, 0, none⟩ (.int .i64 r.kd)).setCell ⟨q8, 1, none⟩ (.slice B101 r.key.length d101)).setCell ⟨q8, 2, none⟩ (.slice B102 r.val.length d102)).setCell ⟨q8, 3, none⟩ (.int .i64 r.x)) ((((w10x.setCell ⟨q8, 0, none⟩ (.int .i64 r.kd)).setCell ⟨q8, 1, none⟩ (.slice B101 r.key.length d101)).setCell ⟨q8, 2, none⟩ (.slice B102 r.val.length d102)).setCell ⟨q8, 3, none⟩ (.int .i64 r.x)).heap.size B102 r.val) := ⟨HF10.out.1.stored HG11.out, HF10.out.2.stored HG11.out⟩
                clear HG11 z0 z1 z2 z3 g0 g1 g2 g3
                generalize ((((w10x.setCell ⟨q8, 0, none⟩ (.int .i64 r.kd)).setCell ⟨q8, 1, none⟩ (.slice B101 r.key.length d101)).setCell ⟨q8, 2, none⟩ (.slice B102 r.val.length d102)).setCell ⟨q8, 3, none⟩ (.int .i64 r.x)) = w11x at *
                refine hK _ _ (HC21.out _ HB11.out) ?_
                clear hK K
                simp only [List.setIfInBounds_toArray, List.set_cons_zero, List.set_cons_succ]
                refine held_take (i := 23) (v := ?_) (d := some 19) rfl rfl (by kernel_rfl) (by kernel_rfl) (by kernel_rfl) (fun _ _ _ h => h) (HC21.out _ HB11.out) ⟨?_, fun w hSw => ?_⟩ ?_
                rotate_left 1
                · rfl
                · (go_simp; all_goals with_reducible rfl)
                simp only [Act.put, List.setIfInBounds_toArray, List.set_cons_zero, List.set_cons_succ]
                refine held_take (i := 24) (v := ?_) (d := some 20) rfl rfl (by kernel_rfl) (by kernel_rfl) (by kernel_rfl) (fun _ _ _ h => h) (HC21.out _ HB11.out) ⟨?_, fun w hSw => ?_⟩ ?_
                rotate_left 1
                · rfl
                · (go_simp; all_goals with_reducible rfl)
                simp only [Act.put, List.setIfInBounds_toArray, List.set_cons_zero, List.set_cons_succ]
                refine wpAnyH_done (by kernel_rfl) ?_ _
                (try go_wp2_with fail)
                go_meet
                exact ⟨_, _, _, _, _, rfl, rfl, rfl, HX11.out, HK11.out, HB11.out⟩
            case rest =>
              obtain ⟨q, B1, d1, B2, d2, rfl, rfl, rfl, HQ, HK, HB⟩ := hcut
              generalize wc = w2 at *
              go_upto_region 22 with fail
              have HLD : Hid (Below w2.heap.size w2 w2.drew) := below_drewN w2 1
              have HBa : Hid (Below w1.heap.size w1 w2.drew) := HB.out.trans (HLD.out.mono HB.out.size)
              have HQa := Lib.hid ((HLD.out.block q (Array.getElem?_eq_some_iff.1 HQ.out).1).trans HQ.out)
              refine wp_region_held_drew (S := fun W => W.heap[q]? = some (.cells #[.int .i64 r.kd, .slice B1 r.key.length d1, .slice B2 r.val.length d2, .int .i64 r.x] 38 (0, 0)) ∧ W.cell? (a10.add j) = some (.int .i64 (nr : Int)) ∧ W.cell? (a11.add (j * 4)) = some (.int .i64 r.kd) ∧ W.cell? ⟨(a11.add (j * 4)).block, (a11.add (j * 4)).off + 1, none⟩ = some (.slice r.A1 r.n1 r.c1) ∧ W.cell? ⟨(a11.add (j * 4)).block, (a11.add (j * 4)).off + 2, none⟩ = some (.slice r.A2 r.n2 r.c2) ∧ W.cell? ⟨(a11.add (j * 4)).block, (a11.add (j * 4)).off + 3, none⟩ = some (.int .i64 r.x)) (by kernel_rfl) (⟨HQa.out, HC22.out _ HBa.out⟩) (fun hH => ?_)
              change wpAnyH _ _ _ _ _ 19 #[false, false, false, false, false, false, false, false, false, false, false, false, false, false, false, false, false, false, false] _ _
              refine held_take (i := 0) (v := ?_) (d := some 113) rfl rfl (by kernel_rfl) (by kernel_rfl) (by kernel_rfl) (fun _ _ _ h => h) hH ⟨?_, fun w hSw => ?_⟩ ?_
              rotate_left 1
              · rfl
              · (go_simp; all_goals with_reducible rfl)
              simp only [Act.put, List.setIfInBounds_toArray, List.set_cons_zero, List.set_cons_succ]
              refine held_take (i := 1) (v := ?_) (d := some 114) rfl rfl (by kernel_rfl) (by kernel_rfl) (by kernel_rfl) (fun _ _ _ h => h) hH ⟨?_, fun w hSw => ?_⟩ ?_
              rotate_left 1
              · rfl
              · (go_simp; all_goals with_reducible rfl)
              simp only [Act.put, List.setIfInBounds_toArray, List.set_cons_zero, List.set_cons_succ]
              refine held_take (i := 2) (v := ?_) (d := some 115) rfl rfl (by kernel_rfl) (by kernel_rfl) (by kernel_rfl) (fun _ _ _ h => h) hH ⟨?_, fun w hSw => ?_⟩ ?_
              rotate_left 1
              · rfl
              · (go_simp; all_goals with_reducible rfl)
              simp only [Act.put, List.setIfInBounds_toArray, List.set_cons_zero, List.set_cons_succ]
              first
                | refine held_skip (i := 3) (d := some 116) rfl rfl (by kernel_rfl) (by kernel_rfl) (by kernel_rfl) (fun _ _ _ h => h) hH ?_ ?_
                  · rfl
                  simp only [Act.put, List.setIfInBounds_toArray, List.set_cons_zero, List.set_cons_succ]
                | refine held_take (i := 3) (v := ?_) (d := some 116) rfl rfl (by kernel_rfl) (by kernel_rfl) (by kernel_rfl) (fun _ _ _ h => h) hH ⟨?_, fun w hSw => ?_⟩ ?_
                  rotate_left 1
                  · rfl
                  · (go_simp; all_goals with_reducible rfl)
                  simp only [Act.put, List.setIfInBounds_toArray, List.set_cons_zero, List.set_cons_succ]
              first
                | refine held_skip (i := 4) (d := some 117) rfl rfl (by kernel_rfl) (by kernel_rfl) (by kernel_rfl) (fun _ _ _ h => h) hH ?_ ?_
                  · rfl
                  simp only [Act.put, List.setIfInBounds_toArray, List.set_cons_zero, List.set_cons_succ]
                | refine held_take (i := 4) (v := ?_) (d := some 117) rfl rfl (by kernel_rfl) (by kernel_rfl) (by kernel_rfl) (fun _ _ _ h => h) hH ⟨?_, fun w hSw => ?_⟩ ?_
                  rotate_left 1
                  · rfl
                  · (go_simp; all_goals with_reducible rfl)
                  simp only [Act.put, List.setIfInBounds_toArray, List.set_cons_zero, List.set_cons_succ]
              first
                | refine held_skip (i := 5) (d := some 118) rfl rfl (by kernel_rfl) (by kernel_rfl) (by kernel_rfl) (fun _ _ _ h => h) hH ?_ ?_
                  · rfl
                  simp only [Act.put, List.setIfInBounds_toArray, List.set_cons_zero, List.set_cons_succ]
                | refine held_take (i := 5) (v := ?_) (d := some 118) rfl rfl (by kernel_rfl) (by kernel_rfl) (by kernel_rfl) (fun _ _ _ h => h) hH ⟨?_, fun w hSw => ?_⟩ ?_
                  rotate_left 1
                  · rfl
                  · (go_simp; all_goals with_reducible rfl)
                  simp only [Act.put, List.setIfInBounds_toArray, List.set_cons_zero, List.set_cons_succ]
              first
                | refine held_skip (i := 6) (d := some 119) rfl rfl (by kernel_rfl) (by kernel_rfl) (by kernel_rfl) (fun _ _ _ h => h) hH ?_ ?_
                  · rfl
                  simp only [Act.put, List.setIfInBounds_toArray, List.set_cons_zero, List.set_cons_succ]
                | refine held_take (i := 6) (v := ?_) (d := some 119) rfl rfl (by kernel_rfl) (by kernel_rfl) (by kernel_rfl) (fun _ _ _ h => h) hH ⟨?_, fun w hSw => ?_⟩ ?_
                  rotate_left 1
                  · rfl
                  · obtain ⟨y, x0, x1, x2, x3, x4⟩ := hSw
                    obtain ⟨y0, y1, y2, y3⟩ := four_cells y
                    (go_simp; all_goals with_reducible rfl)
                  simp only [Act.put, List.setIfInBounds_toArray, List.set_cons_zero, List.set_cons_succ]
              first
                | refine held_skip (i := 7) (d := some 120) rfl rfl (by kernel_rfl) (by kernel_rfl) (by kernel_rfl) (fun _ _ _ h => h) hH ?_ ?_
                  · rfl
                  simp only [Act.put, List.setIfInBounds_toArray, List.set_cons_zero, List.set_cons_succ]
                | refine held_take (i := 7) (v := ?_) (d := some 120) rfl rfl (by kernel_rfl) (by kernel_rfl) (by kernel_rfl) (fun _ _ _ h => h) hH ⟨?_, fun w hSw => ?_⟩ ?_
                  rotate_left 1
                  · rfl
                  · obtain ⟨y, x0, x1, x2, x3, x4⟩ := hSw
                    obtain ⟨y0, y1, y2, y3⟩ := four_cells y
                    (go_simp; all_goals with_reducible rfl)
                  simp only [Act.put, List.setIfInBounds_toArray, List.set_cons_zero, List.set_cons_succ]
              first
                | refine held_skip (i := 8) (d := some 121) rfl rfl (by kernel_rfl) (by kernel_rfl) (by kernel_rfl) (fun _ _ _ h => h) hH ?_ ?_
                  · rfl
                  simp only [Act.put, List.setIfInBounds_toArray, List.set_cons_zero, List.set_cons_succ]
                | refine held_take (i := 8) (v := ?_) (d := some 121) rfl rfl (by kernel_rfl) (by kernel_rfl) (by kernel_rfl) (fun _ _ _ h => h) hH ⟨?_, fun w hSw => ?_⟩ ?_
                  rotate_left 1
                  · rfl
                  · (go_simp; all_goals with_reducible rfl)
                  simp only [Act.put, List.setIfInBounds_toArray, List.set_cons_zero, List.set_cons_succ]
              refine held_take (i := 9) (v := ?_) (d := some 122) rfl rfl (by kernel_rfl) (by kernel_rfl) (by kernel_rfl) (fun _ _ _ h => h) hH ⟨?_, fun w hSw => ?_⟩ ?_
              rotate_left 1
              · rfl
              · (go_simp; all_goals with_reducible rfl)
              simp only [Act.put, List.setIfInBounds_toArray, List.set_cons_zero, List.set_cons_succ]
              refine held_take (i := 10) (v := ?_) (d := some 123) rfl rfl (by kernel_rfl) (by kernel_rfl) (by kernel_rfl) (fun _ _ _ h => h) hH ⟨?_, fun w hSw => ?_⟩ ?_
              rotate_left 1
              · rfl
              · (go_simp; all_goals with_reducible rfl)
              simp only [Act.put, List.setIfInBounds_toArray, List.set_cons_zero, List.set_cons_succ]
              first
                | refine held_skip (i := 11) (d := some 124) rfl rfl (by kernel_rfl) (by kernel_rfl) (by kernel_rfl) (fun _ _ _ h => h) hH ?_ ?_
                  · rfl
                  simp only [Act.put, List.setIfInBounds_toArray, List.set_cons_zero, List.set_cons_succ]
                | refine held_take (i := 11) (v := ?_) (d := some 124) rfl rfl (by kernel_rfl) (by kernel_rfl) (by kernel_rfl) (fun _ _ _ h => h) hH ⟨?_, fun w hSw => ?_⟩ ?_
                  rotate_left 1
                  · rfl
                  · obtain ⟨y, x0, x1, x2, x3, x4⟩ := hSw
                    obtain ⟨y0, y1, y2, y3⟩ := four_cells y
                    (go_simp; all_goals with_reducible rfl)
                  simp only [Act.put, List.setIfInBounds_toArray, List.set_cons_zero, List.set_cons_succ]
              first
                | refine held_skip (i := 12) (d := some 125) rfl rfl (by kernel_rfl) (by kernel_rfl) (by kernel_rfl) (fun _ _ _ h => h) hH ?_ ?_
                  · rfl
                  simp only [Act.put, List.setIfInBounds_toArray, List.set_cons_zero, List.set_cons_succ]
                | refine held_take (i := 12) (v := ?_) (d := some 125) rfl rfl (by kernel_rfl) (by kernel_rfl) (by kernel_rfl) (fun _ _ _ h => h) hH ⟨?_, fun w hSw => ?_⟩ ?_
                  rotate_left 1
                  · rfl
                  · (go_simp; all_goals with_reducible rfl)
                  simp only [Act.put, List.setIfInBounds_toArray, List.set_cons_zero, List.set_cons_succ]
              first
                | refine held_skip (i := 13) (d := some 126) rfl rfl (by kernel_rfl) (by kernel_rfl) (by kernel_rfl) (fun _ _ _ h => h) hH ?_ ?_
                  · rfl
                  simp only [Act.put, List.setIfInBounds_toArray, List.set_cons_zero, List.set_cons_succ]
                | refine held_take (i := 13) (v := ?_) (d := some 126) rfl rfl (by kernel_rfl) (by kernel_rfl) (by kernel_rfl) (fun _ _ _ h => h) hH ⟨?_, fun w hSw => ?_⟩ ?_
                  rotate_left 1
                  · rfl
                  · (go_simp; all_goals with_reducible rfl)
                  simp only [Act.put, List.setIfInBounds_toArray, List.set_cons_zero, List.set_cons_succ]
              first
                | refine held_skip (i := 14) (d := some 127) rfl rfl (by kernel_rfl) (by kernel_rfl) (by kernel_rfl) (fun _ _ _ h => h) hH ?_ ?_
                  · rfl
                  simp only [Act.put, List.setIfInBounds_toArray, List.set_cons_zero, List.set_cons_succ]
                | refine held_take (i := 14) (v := ?_) (d := some 127) rfl rfl (by kernel_rfl) (by kernel_rfl) (by kernel_rfl) (fun _ _ _ h => h) hH ⟨?_, fun w hSw => ?_⟩ ?_
                  rotate_left 1
                  · rfl
                  · obtain ⟨y, x0, x1, x2, x3, x4⟩ := hSw
                    obtain ⟨y0, y1, y2, y3⟩ := four_cells y
                    (go_simp; all_goals with_reducible rfl)
                  simp only [Act.put, List.setIfInBounds_toArray, List.set_cons_zero, List.set_cons_succ]
              first
                | refine held_skip (i := 15) (d := some 128) rfl rfl (by kernel_rfl) (by kernel_rfl) (by kernel_rfl) (fun _ _ _ h => h) hH ?_ ?_
                  · rfl
                  simp only [Act.put, List.setIfInBounds_toArray, List.set_cons_zero, List.set_cons_succ]
                | refine held_take (i := 15) (v := ?_) (d := some 128) rfl rfl (by kernel_rfl) (by kernel_rfl) (by kernel_rfl) (fun _ _ _ h => h) hH ⟨?_, fun w hSw => ?_⟩ ?_
                  rotate_left 1
                  · rfl
                  · obtain ⟨y, x0, x1, x2, x3, x4⟩ := hSw
                    obtain ⟨y0, y1, y2, y3⟩ := four_cells y
                    (go_simp; all_goals with_reducible rfl)
                  simp only [Act.put, List.setIfInBounds_toArray, List.set_cons_zero, List.set_cons_succ]
              first
                | refine held_skip (i := 16) (d := some 129) rfl rfl (by kernel_rfl) (by kernel_rfl) (by kernel_rfl) (fun _ _ _ h => h) hH ?_ ?_
                  · rfl
                  simp only [Act.put, List.setIfInBounds_toArray, List.set_cons_zero, List.set_cons_succ]
                | refine held_step (i := 16) rfl (by kernel_rfl) ?_ (fun K hK => ?_)
                  · rfl
                  clear hH
                  go_simp
                  refine (HEQ.out _ _ _ _ _ HBa.out ⟨(HK.out.1.below HLD.out (Nat.le_refl _)).more HLD.out.size, (HK.out.2.below HLD.out (Nat.le_refl _)).more HLD.out.size⟩).mono ?_
                  rintro e w3 ⟨rfl, hb3⟩
                  have HB3 := Lib.hid (HBa.out.trans (hb3.mono HBa.out.size))
                  have HQ3 := Lib.hid ((hb3.block q (Array.getElem?_eq_some_iff.1 HQa.out).1).trans HQa.out)
                  clear hb3
                  have hH := And.intro HQ3.out (HC22.out _ HB3.out)
                  refine hK _ _ hH ?_
                  clear hK K
                  simp only [List.setIfInBounds_toArray, List.set_cons_zero, List.set_cons_succ]
              first
                | refine held_skip (i := 17) (d := some 130) rfl rfl (by kernel_rfl) (by kernel_rfl) (by kernel_rfl) (fun _ _ _ h => h) hH ?_ ?_
                  · rfl
                  simp only [Act.put, List.setIfInBounds_toArray, List.set_cons_zero, List.set_cons_succ]
                | refine held_take (i := 17) (v := ?_) (d := some 130) rfl rfl (by kernel_rfl) (by kernel_rfl) (by kernel_rfl) (fun _ _ _ h => h) hH ⟨?_, fun w hSw => ?_⟩ ?_
                  rotate_left 1
                  · rfl
                  · (go_simp; all_goals with_reducible rfl)
                  simp only [Act.put, List.setIfInBounds_toArray, List.set_cons_zero, List.set_cons_succ]
              refine held_take (i := 18) (v := ?_) (d := some 131) rfl rfl (by kernel_rfl) (by kernel_rfl) (by kernel_rfl) (fun _ _ _ h => h) hH ⟨?_, fun w hSw => ?_⟩ ?_
              rotate_left 1
              · rfl
              · (go_simp; all_goals with_reducible rfl)
              simp only [Act.put, List.setIfInBounds_toArray, List.set_cons_zero, List.set_cons_succ]
              refine wpAnyH_done (by kernel_rfl) ?_ _
              go_wp2
              go_roundw
              case rel => exact ⟨j + 1, by go_num, by omega, HB3.out⟩
              case measure => simp [Go.RowKit.intOf]; omega
          · obtain rfl : j = ds.length := by omega
            go_wp2_with fail
            refine (HA.out _ (HUP.out.trans (HB.out.mono HUP.out.size))).mono ?_
            rintro e w5 ⟨rfl, hb5⟩
            have HZ := Lib.hid ((HUP.out.trans (HB.out.mono HUP.out.size)).trans (hb5.mono (HUP.out.trans (HB.out.mono HUP.out.size)).size))
            go_wp2
            go_ret
            exact ⟨rfl, HZ.out⟩
      · obtain ⟨ad, hA⟩ := hb1.out.1.some (k := i) (by rw [hl1.out]; exact hin)
        subst hA
        have hra := hb1.out.below HST.out.up (Nat.le_refl _)
        obtain ⟨r0, hr0⟩ : ∃ r0, l1.getD i Rd0 = r0 := ⟨_, rfl⟩
        obtain ⟨e0, e1, e2, e3⟩ := recs_at hra.1 i (by rw [hl1.out]; exact hin) r0 hr0
        have HR0 := Lib.hid (hb1.out.2 i (by rw [hl1.out]; exact hin))
        rw [hr0] at HR0
        have CSH := Lib.hid (fun W => shortrec_any r0 W ⟨HR0.out.1.1, HR0.out.2.1⟩)
        have HRS := Lib.hid HR0.out.short
        generalize r0.short = r at *
        have hib : (i : Int) < 12 := by omega
        have hib2 : (i : Int) < (n1 : Int) := by omega
        clear hra hr0 HR0
        go_wp2_with fail
        refine (CSH.out _).mono ?_
        rintro e w4 ⟨rfl, hb4⟩
        have HST4 := Lib.hid (HST.out.new hb4)
        have HST5 := Lib.hid (HST4.out.new ((Below.refl _ w4).alloc (Nat.le_refl _) (.cells #[.int .i64 r.kd, .slice r.A1 r.n1 r.c1, .slice r.A2 r.n2 r.c2, .int .i64 r.x] 38)))
        have HBX := Lib.hid (Free.made HST4.out.colr (.cells #[.int .i64 r.kd, .slice r.A1 r.n1 r.c1, .slice r.A2 r.n2 r.c2, .int .i64 r.x] 38))
        clear hb4 e0 e1 e2 e3 CSH HST4 HST
        go_wp2_with fail
        generalize w4.alloc (.cells #[.int .i64 r.kd, .slice r.A1 r.n1 r.c1, .slice r.A2 r.n2 r.c2, .int .i64 r.x] 38) = w5 at *
        generalize w4.heap.size = br at *
        refine (HPUT.out w5 col st r HST5.out.p HFIT.out (HRS.out.below HST5.out.up (Nat.le_refl _)) (HST5.out.tab ht.out hz).1 HST5.out.up.size).mono ?_
        rintro e w6 ⟨rfl, hp6, hk6⟩
        have HST6 := Lib.hid (HST5.out.onP hp6 hk6)
        have HBX6 := Lib.hid (HBX.out.other hk6 (by decide) 1)
        have HFIT6 := Lib.hid (HFP.out st r w _ HFIT.out HRS.out)
        clear hp6 hk6 HST5 HBX
        generalize paint col w5 w6 1 = col6 at *
        obtain ⟨ad2, hA2⟩ : ∃ ad, i < n2 → A2 = some ad := by
          by_cases h : i < n2
          · obtain ⟨ad, e⟩ := hb2.out.some (k := i) (by rw [hl2.out]; exact h)
            exact ⟨ad, fun _ => e⟩
          · exact ⟨⟨0, 0, none⟩, fun h' => absurd h' h⟩
        by_cases herr : Pk.err ⟨1, b, c, 4⟩ st r.r = 0
        · have HALL6 : Hid (AllIs w b (Pk.put ⟨1, b, c, 4⟩ 7 st r.r) (ds ++ [(st.length, r)])) := by
            show AllIs _ _ _ _
            rw [Pk.put_ok herr]
            exact HALL.out.snoc (Pk.err_zero.1 herr).1 (Pk.place_ok HFIT.out) HRS.out
          rw [herr, if_pos rfl, if_pos rfl]
          clear herr
          generalize hput : Pk.put ⟨1, b, c, 4⟩ 7 st r.r = st' at *
          clear hput
          have hds : ds.length ≤ 1000000 ∧ (ds.length + 1) * 8 ≤ 140737488355328 ∧ (ds.length + 1) * 64 ≤ 140737488355328 := by omega
          have hds2 : (ds ++ [(st.length, r)]).length = ds.length + 1 := by simp
          have HE : Hid (∀ W col' v9 v10 v11, StR w 1 b c 4 1 7 W col' g st' 0 v9 (ds.length + 1) (intS.flat (offs ds ++ [((st.length : Nat) : Int)])) v10 (ds.length + 1) (intS.flat (lens ds ++ [((Rc.len r.r : Nat) : Int)])) v11 (ds.length + 1) (recS.flat (recs ds ++ [r])) → StR w 1 b c 4 1 7 W col' g st' 0 v9 (ds ++ [(st.length, r)]).length (intS.flat (offs (ds ++ [(st.length, r)]))) v10 (ds ++ [(st.length, r)]).length (intS.flat (lens (ds ++ [(st.length, r)]))) v11 (ds ++ [(st.length, r)]).length (recS.flat (recs (ds ++ [(st.length, r)])))) := fun W col' v9 v10 v11 h => by
            rw [hds2, offs_snoc, lens_snoc, recs_snoc]
            exact h
          go_upto_region 15 with fail
          go_cut [9, 10, 11] (fun v9 v10 v11 wx => ∃ col', Hid (StR w 1 b c 4 1 7 wx col' g st' 0 v9 (ds ++ [(st.length, r)]).length (intS.flat (offs (ds ++ [(st.length, r)]))) v10 (ds ++ [(st.length, r)]).length (intS.flat (lens (ds ++ [(st.length, r)]))) v11 (ds ++ [(st.length, r)]).length (recS.flat (recs (ds ++ [(st.length, r)])))))
          case first =>
            refine wp_region_held_drew (S := fun W => W.heap[br]? = some (.cells #[.int .i64 r.kd, .slice r.A1 r.n1 r.c1, .slice r.A2 r.n2 r.c2, .int .i64 r.x] 38 (0, 0))) (by kernel_rfl) (HBX6.out.1) (fun hH => ?_)
            change wpAnyH _ _ _ _ _ 15 #[false, false, false, false, false, false, false, false, false, false, false, false, false, false, false] _ _
            have HTa := Lib.hid (HST6.out.new (below_drewN w6 1))
            have HBa := Lib.hid (HBX6.out.new (below_drewN w6 1))
            change Hid (StR w 1 b c 4 1 7 w6.drew col6 _ _ _ _ _ _ _ _ _ _ _ _) at HTa
            change Hid (Free col6 w6.drew _ _) at HBa
            clear hH
            generalize w6.drew = wa at *
            refine held_take (i := 0) (v := ?_) (d := some 63) rfl rfl (by kernel_rfl) (by kernel_rfl) (by kernel_rfl) (fun _ _ _ h => h) (HBa.out.1) ⟨?_, fun w hSw => ?_⟩ ?_
            rotate_left 1
            · rfl
            · (go_simp; all_goals with_reducible rfl)
            simp only [Act.put, List.setIfInBounds_toArray, List.set_cons_zero, List.set_cons_succ]
            refine held_take (i := 1) (v := ?_) (d := some 64) rfl rfl (by kernel_rfl) (by kernel_rfl) (by kernel_rfl) (fun _ _ _ h => h) (HBa.out.1) ⟨?_, fun w hSw => ?_⟩ ?_
            rotate_left 1
            · rfl
            · (go_simp; all_goals with_reducible rfl)
            simp only [Act.put, List.setIfInBounds_toArray, List.set_cons_zero, List.set_cons_succ]
            refine held_take (i := 4) (v := ?_) (d := some 67) rfl rfl (by kernel_rfl) (by kernel_rfl) (by kernel_rfl) (fun _ _ _ h => h) (HBa.out.1) ⟨?_, fun w hSw => ?_⟩ ?_
            rotate_left 1
            · rfl
            · (go_simp; all_goals with_reducible rfl)
            simp only [Act.put, List.setIfInBounds_toArray, List.set_cons_zero, List.set_cons_succ]
            refine held_take (i := 5) (v := ?_) (d := some 68) rfl rfl (by kernel_rfl) (by kernel_rfl) (by kernel_rfl) (fun _ _ _ h => h) (HBa.out.1) ⟨?_, fun w hSw => ?_⟩ ?_
            rotate_left 1
            · rfl
            · (go_simp; all_goals with_reducible rfl)
            simp only [Act.put, List.setIfInBounds_toArray, List.set_cons_zero, List.set_cons_succ]
            refine held_take (i := 8) (v := ?_) (d := some 71) rfl rfl (by kernel_rfl) (by kernel_rfl) (by kernel_rfl) (fun _ _ _ h => h) (HBa.out.1) ⟨?_, fun w hSw => ?_⟩ ?_
            rotate_left 1
            · rfl
            · (go_simp; all_goals with_reducible rfl)
            simp only [Act.put, List.setIfInBounds_toArray, List.set_cons_zero, List.set_cons_succ]
            refine held_take (i := 9) (v := ?_) (d := some 72) rfl rfl (by kernel_rfl) (by kernel_rfl) (by kernel_rfl) (fun _ _ _ h => h) (HBa.out.1) ⟨?_, fun w hSw => ?_⟩ ?_
            rotate_left 1
            · rfl
            · obtain ⟨y0, y1, y2, y3⟩ := four_cells hSw
              (go_simp; all_goals with_reducible rfl)
            simp only [Act.put, List.setIfInBounds_toArray, List.set_cons_zero, List.set_cons_succ]
            refine hold_three (i := 2) (j := 6) (k := 10) rfl rfl rfl (by kernel_rfl) (by rfl) (by rfl) (by rfl) (fun K hK => ?_) (fun K hK => ?_) (fun K hK => ?_)
            · go_simp
              have HT1 := Lib.hid (HTa.out.new ((Below.refl _ wa).alloc (Nat.le_refl _) (.cells #[.int .i64 ((st.length : Nat) : Int)] 3)))
              have HB1_0 := Lib.hid (HBa.out.new ((Below.refl _ wa).alloc (Nat.le_refl _) (.cells #[.int .i64 ((st.length : Nat) : Int)] 3)))
              have HB1_1 := Lib.hid (Free.made HTa.out.colr (.cells #[.int .i64 ((st.length : Nat) : Int)] 3))
              generalize wa.alloc (.cells #[.int .i64 ((st.length : Nat) : Int)] 3) = w1x at *
              generalize wa.heap.size = b1 at *
              refine hK _ _ (HB1_0.out.1) ?_
              clear hK K
              simp only [List.setIfInBounds_toArray, List.set_cons_zero, List.set_cons_succ]
              refine hold_three (i := 3) (j := 6) (k := 10) rfl rfl rfl (by kernel_rfl) (by rfl) (by rfl) (by rfl) (fun K hK => ?_) (fun K hK => ?_) (fun K hK => ?_)
              · refine op_append_at (Sh := intS) 66 rfl (.tmp 63) (.tmp 65) 44 rfl Tryd.underlying44 info_int rfl u9 ds.length (offs ds) rfl HT1.out.o b1 1 ((st.length : Nat) : Int) rfl HB1_1.out.1 hds.1 hds.2.1 ?_
                intro v2 w2x hr2 hk2
                have HT2 := Lib.hid (HT1.out.onO hr2 hk2)
                have HB2_0 := Lib.hid (HB1_0.out.other hk2 (by decide) 3)
                clear hr2 hk2
                generalize paint col6 w1x w2x 3 = col2 at *
                refine hK _ _ (HB2_0.out.1) ?_
                clear hK K
                simp only [Act.put, List.setIfInBounds_toArray, List.set_cons_zero, List.set_cons_succ]
                refine hold_two (i := 6) (j := 10) rfl rfl (by kernel_rfl) (by rfl) (by rfl) (fun K hK => ?_) (fun K hK => ?_)
                · go_simp
                  have HT3 := Lib.hid (HT2.out.new ((Below.refl _ w2x).alloc (Nat.le_refl _) (.cells #[.int .i64 ((Rc.len r.r : Nat) : Int)] 3)))
                  have HB3_0 := Lib.hid (HB2_0.out.new ((Below.refl _ w2x).alloc (Nat.le_refl _) (.cells #[.int .i64 ((Rc.len r.r : Nat) : Int)] 3)))
                  have HB3_2 := Lib.hid (Free.made HT2.out.colr (.cells #[.int .i64 ((Rc.len r.r : Nat) : Int)] 3))
                  generalize w2x.alloc (.cells #[.int .i64 ((Rc.len r.r : Nat) : Int)] 3) = w3x at *
                  generalize w2x.heap.size = b3 at *
                  refine hK _ _ (HB3_0.out.1) ?_
                  clear hK K
                  simp only [List.setIfInBounds_toArray, List.set_cons_zero, List.set_cons_succ]
                  refine hold_two (i := 7) (j := 10) rfl rfl (by kernel_rfl) (by rfl) (by rfl) (fun K hK => ?_) (fun K hK => ?_)
                  · refine op_append_at (Sh := intS) 70 rfl (.tmp 67) (.tmp 69) 44 rfl Tryd.underlying44 info_int rfl u10 ds.length (lens ds) rfl HT3.out.n b3 1 ((Rc.len r.r : Nat) : Int) rfl HB3_2.out.1 hds.1 hds.2.1 ?_
                    intro v4 w4x hr4 hk4
                    have HT4 := Lib.hid (HT3.out.onN hr4 hk4)
                    have HB4_0 := Lib.hid (HB3_0.out.other hk4 (by decide) 4)
                    clear hr4 hk4
                    generalize paint col2 w3x w4x 4 = col4 at *
                    refine hK _ _ (HB4_0.out.1) ?_
                    clear hK K
                    simp only [Act.put, List.setIfInBounds_toArray, List.set_cons_zero, List.set_cons_succ]
                    refine held_step (i := 10) rfl (by kernel_rfl) ?_ (fun K hK => ?_)
                    · rfl
                    go_simp
                    have HT5 := Lib.hid (HT4.out.new ((Below.refl _ w4x).alloc (Nat.le_refl _) (.cells #[.int .i64 r.kd, .slice r.A1 r.n1 r.c1, .slice r.A2 r.n2 r.c2, .int .i64 r.x] 38)))
                    have HB5_0 := Lib.hid (HB4_0.out.new ((Below.refl _ w4x).alloc (Nat.le_refl _) (.cells #[.int .i64 r.kd, .slice r.A1 r.n1 r.c1, .slice r.A2 r.n2 r.c2, .int .i64 r.x] 38)))
                    have HB5_3 := Lib.hid (Free.made HT4.out.colr (.cells #[.int .i64 r.kd, .slice r.A1 r.n1 r.c1, .slice r.A2 r.n2 r.c2, .int .i64 r.x] 38))
                    generalize w4x.alloc (.cells #[.int .i64 r.kd, .slice r.A1 r.n1 r.c1, .slice r.A2 r.n2 r.c2, .int .i64 r.x] 38) = w5x at *
                    generalize w4x.heap.size = b5 at *
                    refine hK _ _ (HB5_0.out.1) ?_
                    clear hK K
                    simp only [List.setIfInBounds_toArray, List.set_cons_zero, List.set_cons_succ]
                    refine held_step (i := 11) rfl (by kernel_rfl) ?_ (fun K hK => ?_)
                    · rfl
                    refine op_append_at (Sh := recS) 74 rfl (.tmp 71) (.tmp 73) 55 rfl Tryd.underlying55 info_rec rfl u11 ds.length (recs ds) rfl HT5.out.r b5 1 r rfl HB5_3.out.1 hds.1 hds.2.2 ?_
                    intro v6 w6x hr6 hk6
                    have HT6 := Lib.hid (HT5.out.onR hr6 hk6)
                    have HB6_0 := Lib.hid (HB5_0.out.other hk6 (by decide) 6)
                    clear hr6 hk6
                    generalize paint col4 w5x w6x 6 = col6 at *
                    refine hK _ _ (HB6_0.out.1) ?_
                    clear hK K
                    simp only [Act.put, List.setIfInBounds_toArray, List.set_cons_zero, List.set_cons_succ]
                    refine held_take (i := 12) (v := ?_) (d := some 9) rfl rfl (by kernel_rfl) (by kernel_rfl) (by kernel_rfl) (fun _ _ _ h => h) (HB6_0.out.1) ⟨?_, fun w hSw => ?_⟩ ?_
                    rotate_left 1
                    · rfl
                    · (go_simp; all_goals with_reducible rfl)
                    simp only [Act.put, List.setIfInBounds_toArray, List.set_cons_zero, List.set_cons_succ]
                    refine held_take (i := 13) (v := ?_) (d := some 10) rfl rfl (by kernel_rfl) (by kernel_rfl) (by kernel_rfl) (fun _ _ _ h => h) (HB6_0.out.1) ⟨?_, fun w hSw => ?_⟩ ?_
                    rotate_left 1
                    · rfl
                    · (go_simp; all_goals with_reducible rfl)
                    simp only [Act.put, List.setIfInBounds_toArray, List.set_cons_zero, List.set_cons_succ]
                    refine held_take (i := 14) (v := ?_) (d := some 11) rfl rfl (by kernel_rfl) (by kernel_rfl) (by kernel_rfl) (fun _ _ _ h => h) (HB6_0.out.1) ⟨?_, fun w hSw => ?_⟩ ?_
                    rotate_left 1
                    · rfl
                    · (go_simp; all_goals with_reducible rfl)
                    simp only [Act.put, List.setIfInBounds_toArray, List.set_cons_zero, List.set_cons_succ]
                    refine wpAnyH_done (by kernel_rfl) ?_ _
                    (try go_wp2_with fail)
                    go_meet
                    exact ⟨_, HE.out _ _ _ _ _ HT6.out⟩
                  · go_simp
                    have HT7 := Lib.hid (HT3.out.new ((Below.refl _ w3x).alloc (Nat.le_refl _) (.cells #[.int .i64 r.kd, .slice r.A1 r.n1 r.c1, .slice r.A2 r.n2 r.c2, .int .i64 r.x] 38)))
                    have HB7_0 := Lib.hid (HB3_0.out.new ((Below.refl _ w3x).alloc (Nat.le_refl _) (.cells #[.int .i64 r.kd, .slice r.A1 r.n1 r.c1, .slice r.A2 r.n2 r.c2, .int .i64 r.x] 38)))
                    have HB7_2 := Lib.hid (HB3_2.out.new ((Below.refl _ w3x).alloc (Nat.le_refl _) (.cells #[.int .i64 r.kd, .slice r.A1 r.n1 r.c1, .slice r.A2 r.n2 r.c2, .int .i64 r.x] 38)))
                    have HB7_3 := Lib.hid (Free.made HT3.out.colr (.cells #[.int .i64 r.kd, .slice r.A1 r.n1 r.c1, .slice r.A2 r.n2 r.c2, .int .i64 r.x] 38))
                    generalize w3x.alloc (.cells #[.int .i64 r.kd, .slice r.A1 r.n1 r.c1, .slice r.A2 r.n2 r.c2, .int .i64 r.x] 38) = w7x at *
                    generalize w3x.heap.size = b7 at *
                    refine hK _ _ (HB7_0.out.1) ?_
                    clear hK K
                    simp only [List.setIfInBounds_toArray, List.set_cons_zero, List.set_cons_succ]
                    refine held_step (i := 7) rfl (by kernel_rfl) ?_ (fun K hK => ?_)
                    · rfl
                    refine op_append_at (Sh := intS) 70 rfl (.tmp 67) (.tmp 69) 44 rfl Tryd.underlying44 info_int rfl u10 ds.length (lens ds) rfl HT7.out.n b3 1 ((Rc.len r.r : Nat) : Int) rfl HB7_2.out.1 hds.1 hds.2.1 ?_
                    intro v8 w8x hr8 hk8
                    have HT8 := Lib.hid (HT7.out.onN hr8 hk8)
                    have HB8_0 := Lib.hid (HB7_0.out.other hk8 (by decide) 4)
                    have HB8_3 := Lib.hid (HB7_3.out.other hk8 (by decide) 4)
                    clear hr8 hk8
                    generalize paint col2 w7x w8x 4 = col8 at *
                    refine hK _ _ (HB8_0.out.1) ?_
                    clear hK K
                    simp only [Act.put, List.setIfInBounds_toArray, List.set_cons_zero, List.set_cons_succ]
                    refine held_step (i := 11) rfl (by kernel_rfl) ?_ (fun K hK => ?_)
                    · rfl
                    refine op_append_at (Sh := recS) 74 rfl (.tmp 71) (.tmp 73) 55 rfl Tryd.underlying55 info_rec rfl u11 ds.length (recs ds) rfl HT8.out.r b7 1 r rfl HB8_3.out.1 hds.1 hds.2.2 ?_
                    intro v9 w9x hr9 hk9
                    have HT9 := Lib.hid (HT8.out.onR hr9 hk9)
                    have HB9_0 := Lib.hid (HB8_0.out.other hk9 (by decide) 6)
                    clear hr9 hk9
                    generalize paint col8 w8x w9x 6 = col9 at *
                    refine hK _ _ (HB9_0.out.1) ?_
                    clear hK K
                    simp only [Act.put, List.setIfInBounds_toArray, List.set_cons_zero, List.set_cons_succ]
                    refine held_take (i := 12) (v := ?_) (d := some 9) rfl rfl (by kernel_rfl) (by kernel_rfl) (by kernel_rfl) (fun _ _ _ h => h) (HB9_0.out.1) ⟨?_, fun w hSw => ?_⟩ ?_
                    rotate_left 1
                    · rfl
                    · (go_simp; all_goals with_reducible rfl)
                    simp only [Act.put, List.setIfInBounds_toArray, List.set_cons_zero, List.set_cons_succ]
                    refine held_take (i := 13) (v := ?_) (d := some 10) rfl rfl (by kernel_rfl) (by kernel_rfl) (by kernel_rfl) (fun _ _ _ h => h) (HB9_0.out.1) ⟨?_, fun w hSw => ?_⟩ ?_
                    rotate_left 1
                    · rfl
                    · (go_simp; all_goals with_reducible rfl)
                    simp only [Act.put, List.setIfInBounds_toArray, List.set_cons_zero, List.set_cons_succ]
                    refine held_take (i := 14) (v := ?_) (d := some 11) rfl rfl (by kernel_rfl) (by kernel_rfl) (by kernel_rfl) (fun _ _ _ h => h) (HB9_0.out.1) ⟨?_, fun w hSw => ?_⟩ ?_
                    rotate_left 1
                    · rfl
                    · (go_simp; all_goals with_reducible rfl)
                    simp only [Act.put, List.setIfInBounds_toArray, List.set_cons_zero, List.set_cons_succ]
                    refine wpAnyH_done (by kernel_rfl) ?_ _
                    (try go_wp2_with fail)
                    go_meet
                    exact ⟨_, HE.out _ _ _ _ _ HT9.out⟩
                · go_simp
                  have HT10 := Lib.hid (HT2.out.new ((Below.refl _ w2x).alloc (Nat.le_refl _) (.cells #[.int .i64 r.kd, .slice r.A1 r.n1 r.c1, .slice r.A2 r.n2 r.c2, .int .i64 r.x] 38)))
                  have HB10_0 := Lib.hid (HB2_0.out.new ((Below.refl _ w2x).alloc (Nat.le_refl _) (.cells #[.int .i64 r.kd, .slice r.A1 r.n1 r.c1, .slice r.A2 r.n2 r.c2, .int .i64 r.x] 38)))
                  have HB10_3 := Lib.hid (Free.made HT2.out.colr (.cells #[.int .i64 r.kd, .slice r.A1 r.n1 r.c1, .slice r.A2 r.n2 r.c2, .int .i64 r.x] 38))
                  generalize w2x.alloc (.cells #[.int .i64 r.kd, .slice r.A1 r.n1 r.c1, .slice r.A2 r.n2 r.c2, .int .i64 r.x] 38) = w10x at *
                  generalize w2x.heap.size = b10 at *
                  refine hK _ _ (HB10_0.out.1) ?_
                  clear hK K
                  simp only [List.setIfInBounds_toArray, List.set_cons_zero, List.set_cons_succ]
                  refine held_step (i := 6) rfl (by kernel_rfl) ?_ (fun K hK => ?_)
                  · rfl
                  go_simp
                  have HT11 := Lib.hid (HT10.out.new ((Below.refl _ w10x).alloc (Nat.le_refl _) (.cells #[.int .i64 ((Rc.len r.r : Nat) : Int)] 3)))
                  have HB11_0 := Lib.hid (HB10_0.out.new ((Below.refl _ w10x).alloc (Nat.le_refl _) (.cells #[.int .i64 ((Rc.len r.r : Nat) : Int)] 3)))
                  have HB11_3 := Lib.hid (HB10_3.out.new ((Below.refl _ w10x).alloc (Nat.le_refl _) (.cells #[.int .i64 ((Rc.len r.r : Nat) : Int)] 3)))
                  have HB11_2 := Lib.hid (Free.made HT10.out.colr (.cells #[.int .i64 ((Rc.len r.r : Nat) : Int)] 3))
                  generalize w10x.alloc (.cells #[.int .i64 ((Rc.len r.r : Nat) : Int)] 3) = w11x at *
                  generalize w10x.heap.size = b11 at *
                  refine hK _ _ (HB11_0.out.1) ?_
                  clear hK K
                  simp only [List.setIfInBounds_toArray, List.set_cons_zero, List.set_cons_succ]
                  refine held_step (i := 7) rfl (by kernel_rfl) ?_ (fun K hK => ?_)
                  · rfl
                  refine op_append_at (Sh := intS) 70 rfl (.tmp 67) (.tmp 69) 44 rfl Tryd.underlying44 info_int rfl u10 ds.length (lens ds) rfl HT11.out.n b11 1 ((Rc.len r.r : Nat) : Int) rfl HB11_2.out.1 hds.1 hds.2.1 ?_
                  intro v12 w12x hr12 hk12
                  have HT12 := Lib.hid (HT11.out.onN hr12 hk12)
                  have HB12_0 := Lib.hid (HB11_0.out.other hk12 (by decide) 4)
                  have HB12_3 := Lib.hid (HB11_3.out.other hk12 (by decide) 4)
                  clear hr12 hk12
                  generalize paint col2 w11x w12x 4 = col12 at *
                  refine hK _ _ (HB12_0.out.1) ?_
                  clear hK K
                  simp only [Act.put, List.setIfInBounds_toArray, List.set_cons_zero, List.set_cons_succ]
                  refine held_step (i := 11) rfl (by kernel_rfl) ?_ (fun K hK => ?_)
                  · rfl
                  refine op_append_at (Sh := recS) 74 rfl (.tmp 71) (.tmp 73) 55 rfl Tryd.underlying55 info_rec rfl u11 ds.length (recs ds) rfl HT12.out.r b10 1 r rfl HB12_3.out.1 hds.1 hds.2.2 ?_
                  intro v13 w13x hr13 hk13
                  have HT13 := Lib.hid (HT12.out.onR hr13 hk13)
                  have HB13_0 := Lib.hid (HB12_0.out.other hk13 (by decide) 6)
                  clear hr13 hk13
                  generalize paint col12 w12x w13x 6 = col13 at *
                  refine hK _ _ (HB13_0.out.1) ?_
                  clear hK K
                  simp only [Act.put, List.setIfInBounds_toArray, List.set_cons_zero, List.set_cons_succ]
                  refine held_take (i := 12) (v := ?_) (d := some 9) rfl rfl (by kernel_rfl) (by kernel_rfl) (by kernel_rfl) (fun _ _ _ h => h) (HB13_0.out.1) ⟨?_, fun w hSw => ?_⟩ ?_
                  rotate_left 1
                  · rfl
                  · (go_simp; all_goals with_reducible rfl)
                  simp only [Act.put, List.setIfInBounds_toArray, List.set_cons_zero, List.set_cons_succ]
                  refine held_take (i := 13) (v := ?_) (d := some 10) rfl rfl (by kernel_rfl) (by kernel_rfl) (by kernel_rfl) (fun _ _ _ h => h) (HB13_0.out.1) ⟨?_, fun w hSw => ?_⟩ ?_
                  rotate_left 1
                  · rfl
                  · (go_simp; all_goals with_reducible rfl)
                  simp only [Act.put, List.setIfInBounds_toArray, List.set_cons_zero, List.set_cons_succ]
                  refine held_take (i := 14) (v := ?_) (d := some 11) rfl rfl (by kernel_rfl) (by kernel_rfl) (by kernel_rfl) (fun _ _ _ h => h) (HB13_0.out.1) ⟨?_, fun w hSw => ?_⟩ ?_
                  rotate_left 1
                  · rfl
                  · (go_simp; all_goals with_reducible rfl)
                  simp only [Act.put, List.setIfInBounds_toArray, List.set_cons_zero, List.set_cons_succ]
                  refine wpAnyH_done (by kernel_rfl) ?_ _
                  (try go_wp2_with fail)
                  go_meet
                  exact ⟨_, HE.out _ _ _ _ _ HT13.out⟩
              · go_simp
                have HT14 := Lib.hid (HT1.out.new ((Below.refl _ w1x).alloc (Nat.le_refl _) (.cells #[.int .i64 ((Rc.len r.r : Nat) : Int)] 3)))
                have HB14_0 := Lib.hid (HB1_0.out.new ((Below.refl _ w1x).alloc (Nat.le_refl _) (.cells #[.int .i64 ((Rc.len r.r : Nat) : Int)] 3)))
                have HB14_1 := Lib.hid (HB1_1.out.new ((Below.refl _ w1x).alloc (Nat.le_refl _) (.cells #[.int .i64 ((Rc.len r.r : Nat) : Int)] 3)))
                have HB14_2 := Lib.hid (Free.made HT1.out.colr (.cells #[.int .i64 ((Rc.len r.r : Nat) : Int)] 3))
                generalize w1x.alloc (.cells #[.int .i64 ((Rc.len r.r : Nat) : Int)] 3) = w14x at *
                generalize w1x.heap.size = b14 at *
                refine hK _ _ (HB14_0.out.1) ?_
                clear hK K
                simp only [List.setIfInBounds_toArray, List.set_cons_zero, List.set_cons_succ]
                refine hold_two (i := 3) (j := 10) rfl rfl (by kernel_rfl) (by rfl) (by rfl) (fun K hK => ?_) (fun K hK => ?_)
                · refine op_append_at (Sh := intS) 66 rfl (.tmp 63) (.tmp 65) 44 rfl Tryd.underlying44 info_int rfl u9 ds.length (offs ds) rfl HT14.out.o b1 1 ((st.length : Nat) : Int) rfl HB14_1.out.1 hds.1 hds.2.1 ?_
                  intro v15 w15x hr15 hk15
                  have HT15 := Lib.hid (HT14.out.onO hr15 hk15)
                  have HB15_0 := Lib.hid (HB14_0.out.other hk15 (by decide) 3)
                  have HB15_2 := Lib.hid (HB14_2.out.other hk15 (by decide) 3)
                  clear hr15 hk15
                  generalize paint col6 w14x w15x 3 = col15 at *
                  refine hK _ _ (HB15_0.out.1) ?_
                  clear hK K
                  simp only [Act.put, List.setIfInBounds_toArray, List.set_cons_zero, List.set_cons_succ]
                  refine hold_two (i := 7) (j := 10) rfl rfl (by kernel_rfl) (by rfl) (by rfl) (fun K hK => ?_) (fun K hK => ?_)
                  · refine op_append_at (Sh := intS) 70 rfl (.tmp 67) (.tmp 69) 44 rfl Tryd.underlying44 info_int rfl u10 ds.length (lens ds) rfl HT15.out.n b14 1 ((Rc.len r.r : Nat) : Int) rfl HB15_2.out.1 hds.1 hds.2.1 ?_
                    intro v16 w16x hr16 hk16
                    have HT16 := Lib.hid (HT15.out.onN hr16 hk16)
                    have HB16_0 := Lib.hid (HB15_0.out.other hk16 (by decide) 4)
                    clear hr16 hk16
                    generalize paint col15 w15x w16x 4 = col16 at *
                    refine hK _ _ (HB16_0.out.1) ?_
                    clear hK K
                    simp only [Act.put, List.setIfInBounds_toArray, List.set_cons_zero, List.set_cons_succ]
                    refine held_step (i := 10) rfl (by kernel_rfl) ?_ (fun K hK => ?_)
                    · rfl
                    go_simp
                    have HT17 := Lib.hid (HT16.out.new ((Below.refl _ w16x).alloc (Nat.le_refl _) (.cells #[.int .i64 r.kd, .slice r.A1 r.n1 r.c1, .slice r.A2 r.n2 r.c2, .int .i64 r.x] 38)))
                    have HB17_0 := Lib.hid (HB16_0.out.new ((Below.refl _ w16x).alloc (Nat.le_refl _) (.cells #[.int .i64 r.kd, .slice r.A1 r.n1 r.c1, .slice r.A2 r.n2 r.c2, .int .i64 r.x] 38)))
                    have HB17_3 := Lib.hid (Free.made HT16.out.colr (.cells #[.int .i64 r.kd, .slice r.A1 r.n1 r.c1, .slice r.A2 r.n2 r.c2, .int .i64 r.x] 38))
                    generalize w16x.alloc (.cells #[.int .i64 r.kd, .slice r.A1 r.n1 r.c1, .slice r.A2 r.n2 r.c2, .int .i64 r.x] 38) = w17x at *
                    generalize w16x.heap.size = b17 at *
                    refine hK _ _ (HB17_0.out.1) ?_
                    clear hK K
                    simp only [List.setIfInBounds_toArray, List.set_cons_zero, List.set_cons_succ]
                    refine held_step (i := 11) rfl (by kernel_rfl) ?_ (fun K hK => ?_)
                    · rfl
                    refine op_append_at (Sh := recS) 74 rfl (.tmp 71) (.tmp 73) 55 rfl Tryd.underlying55 info_rec rfl u11 ds.length (recs ds) rfl HT17.out.r b17 1 r rfl HB17_3.out.1 hds.1 hds.2.2 ?_
                    intro v18 w18x hr18 hk18
                    have HT18 := Lib.hid (HT17.out.onR hr18 hk18)
                    have HB18_0 := Lib.hid (HB17_0.out.other hk18 (by decide) 6)
                    clear hr18 hk18
                    generalize paint col16 w17x w18x 6 = col18 at *
                    refine hK _ _ (HB18_0.out.1) ?_
                    clear hK K
                    simp only [Act.put, List.setIfInBounds_toArray, List.set_cons_zero, List.set_cons_succ]
                    refine held_take (i := 12) (v := ?_) (d := some 9) rfl rfl (by kernel_rfl) (by kernel_rfl) (by kernel_rfl) (fun _ _ _ h => h) (HB18_0.out.1) ⟨?_, fun w hSw => ?_⟩ ?_
                    rotate_left 1
                    · rfl
                    · (go_simp; all_goals with_reducible rfl)
                    simp only [Act.put, List.setIfInBounds_toArray, List.set_cons_zero, List.set_cons_succ]
                    refine held_take (i := 13) (v := ?_) (d := some 10) rfl rfl (by kernel_rfl) (by kernel_rfl) (by kernel_rfl) (fun _ _ _ h => h) (HB18_0.out.1) ⟨?_, fun w hSw => ?_⟩ ?_
                    rotate_left 1
                    · rfl
                    · (go_simp; all_goals with_reducible rfl)
                    simp only [Act.put, List.setIfInBounds_toArray, List.set_cons_zero, List.set_cons_succ]
                    refine held_take (i := 14) (v := ?_) (d := some 11) rfl rfl (by kernel_rfl) (by kernel_rfl) (by kernel_rfl) (fun _ _ _ h => h) (HB18_0.out.1) ⟨?_, fun w hSw => ?_⟩ ?_
                    rotate_left 1
                    · rfl
                    · (go_simp; all_goals with_reducible rfl)
                    simp only [Act.put, List.setIfInBounds_toArray, List.set_cons_zero, List.set_cons_succ]
                    refine wpAnyH_done (by kernel_rfl) ?_ _
                    (try go_wp2_with fail)
                    go_meet
                    exact ⟨_, HE.out _ _ _ _ _ HT18.out⟩
                  · go_simp
                    have HT19 := Lib.hid (HT15.out.new ((Below.refl _ w15x).alloc (Nat.le_refl _) (.cells #[.int .i64 r.kd, .slice r.A1 r.n1 r.c1, .slice r.A2 r.n2 r.c2, .int .i64 r.x] 38)))
                    have HB19_0 := Lib.hid (HB15_0.out.new ((Below.refl _ w15x).alloc (Nat.le_refl _) (.cells #[.int .i64 r.kd, .slice r.A1 r.n1 r.c1, .slice r.A2 r.n2 r.c2, .int .i64 r.x] 38)))
                    have HB19_2 := Lib.hid (HB15_2.out.new ((Below.refl _ w15x).alloc (Nat.le_refl _) (.cells #[.int .i64 r.kd, .slice r.A1 r.n1 r.c1, .slice r.A2 r.n2 r.c2, .int .i64 r.x] 38)))
                    have HB19_3 := Lib.hid (Free.made HT15.out.colr (.cells #[.int .i64 r.kd, .slice r.A1 r.n1 r.c1, .slice r.A2 r.n2 r.c2, .int .i64 r.x] 38))
                    generalize w15x.alloc (.cells #[.int .i64 r.kd, .slice r.A1 r.n1 r.c1, .slice r.A2 r.n2 r.c2, .int .i64 r.x] 38) = w19x at *
                    generalize w15x.heap.size = b19 at *
                    refine hK _ _ (HB19_0.out.1) ?_
                    clear hK K
                    simp only [List.setIfInBounds_toArray, List.set_cons_zero, List.set_cons_succ]
                    refine held_step (i := 7) rfl (by kernel_rfl) ?_ (fun K hK => ?_)
                    · rfl
                    refine op_append_at (Sh := intS) 70 rfl (.tmp 67) (.tmp 69) 44 rfl Tryd.underlying44 info_int rfl u10 ds.length (lens ds) rfl HT19.out.n b14 1 ((Rc.len r.r : Nat) : Int) rfl HB19_2.out.1 hds.1 hds.2.1 ?_
                    intro v20 w20x hr20 hk20
                    have HT20 := Lib.hid (HT19.out.onN hr20 hk20)
                    have HB20_0 := Lib.hid (HB19_0.out.other hk20 (by decide) 4)
                    have HB20_3 := Lib.hid (HB19_3.out.other hk20 (by decide) 4)
                    clear hr20 hk20
                    generalize paint col15 w19x w20x 4 = col20 at *
                    refine hK _ _ (HB20_0.out.1) ?_
                    clear hK K
                    simp only [Act.put, List.setIfInBounds_toArray, List.set_cons_zero, List.set_cons_succ]
                    refine held_step (i := 11) rfl (by kernel_rfl) ?_ (fun K hK => ?_)
                    · rfl
                    refine op_append_at (Sh := recS) 74 rfl (.tmp 71) (.tmp 73) 55 rfl Tryd.underlying55 info_rec rfl u11 ds.length (recs ds) rfl HT20.out.r b19 1 r rfl HB20_3.out.1 hds.1 hds.2.2 ?_
                    intro v21 w21x hr21 hk21
                    have HT21 := Lib.hid (HT20.out.onR hr21 hk21)
                    have HB21_0 := Lib.hid (HB20_0.out.other hk21 (by decide) 6)
                    clear hr21 hk21
                    generalize paint col20 w20x w21x 6 = col21 at *
                    refine hK _ _ (HB21_0.out.1) ?_
                    clear hK K
                    simp only [Act.put, List.setIfInBounds_toArray, List.set_cons_zero, List.set_cons_succ]
                    refine held_take (i := 12) (v := ?_) (d := some 9) rfl rfl (by kernel_rfl) (by kernel_rfl) (by kernel_rfl) (fun _ _ _ h => h) (HB21_0.out.1) ⟨?_, fun w hSw => ?_⟩ ?_
                    rotate_left 1
                    · rfl
                    · (go_simp; all_goals with_reducible rfl)
                    simp only [Act.put, List.setIfInBounds_toArray, List.set_cons_zero, List.set_cons_succ]
                    refine held_take (i := 13) (v := ?_) (d := some 10) rfl rfl (by kernel_rfl) (by kernel_rfl) (by kernel_rfl) (fun _ _ _ h => h) (HB21_0.out.1) ⟨?_, fun w hSw => ?_⟩ ?_
                    rotate_left 1
                    · rfl
                    · (go_simp; all_goals with_reducible rfl)
                    simp only [Act.put, List.setIfInBounds_toArray, List.set_cons_zero, List.set_cons_succ]
                    refine held_take (i := 14) (v := ?_) (d := some 11) rfl rfl (by kernel_rfl) (by kernel_rfl) (by kernel_rfl) (fun _ _ _ h => h) (HB21_0.out.1) ⟨?_, fun w hSw => ?_⟩ ?_
                    rotate_left 1
                    · rfl
                    · (go_simp; all_goals with_reducible rfl)
                    simp only [Act.put, List.setIfInBounds_toArray, List.set_cons_zero, List.set_cons_succ]
                    refine wpAnyH_done (by kernel_rfl) ?_ _
                    (try go_wp2_with fail)
                    go_meet
                    exact ⟨_, HE.out _ _ _ _ _ HT21.out⟩
                · go_simp
                  have HT22 := Lib.hid (HT14.out.new ((Below.refl _ w14x).alloc (Nat.le_refl _) (.cells #[.int .i64 r.kd, .slice r.A1 r.n1 r.c1, .slice r.A2 r.n2 r.c2, .int .i64 r.x] 38)))
                  have HB22_0 := Lib.hid (HB14_0.out.new ((Below.refl _ w14x).alloc (Nat.le_refl _) (.cells #[.int .i64 r.kd, .slice r.A1 r.n1 r.c1, .slice r.A2 r.n2 r.c2, .int .i64 r.x] 38)))
                  have HB22_1 := Lib.hid (HB14_1.out.new ((Below.refl _ w14x).alloc (Nat.le_refl _) (.cells #[.int .i64 r.kd, .slice r.A1 r.n1 r.c1, .slice r.A2 r.n2 r.c2, .int .i64 r.x] 38)))
                  have HB22_2 := Lib.hid (HB14_2.out.new ((Below.refl _ w14x).alloc (Nat.le_refl _) (.cells #[.int .i64 r.kd, .slice r.A1 r.n1 r.c1, .slice r.A2 r.n2 r.c2, .int .i64 r.x] 38)))
                  have HB22_3 := Lib.hid (Free.made HT14.out.colr (.cells #[.int .i64 r.kd, .slice r.A1 r.n1 r.c1, .slice r.A2 r.n2 r.c2, .int .i64 r.x] 38))
                  generalize w14x.alloc (.cells #[.int .i64 r.kd, .slice r.A1 r.n1 r.c1, .slice r.A2 r.n2 r.c2, .int .i64 r.x] 38) = w22x at *
                  generalize w14x.heap.size = b22 at *
                  refine hK _ _ (HB22_0.out.1) ?_
                  clear hK K
                  simp only [List.setIfInBounds_toArray, List.set_cons_zero, List.set_cons_succ]
                  refine held_step (i := 3) rfl (by kernel_rfl) ?_ (fun K hK => ?_)
                  · rfl
                  refine op_append_at (Sh := intS) 66 rfl (.tmp 63) (.tmp 65) 44 rfl Tryd.underlying44 info_int rfl u9 ds.length (offs ds) rfl HT22.out.o b1 1 ((st.length : Nat) : Int) rfl HB22_1.out.1 hds.1 hds.2.1 ?_
                  intro v23 w23x hr23 hk23
                  have HT23 := Lib.hid (HT22.out.onO hr23 hk23)
                  have HB23_0 := Lib.hid (HB22_0.out.other hk23 (by decide) 3)
                  have HB23_2 := Lib.hid (HB22_2.out.other hk23 (by decide) 3)
                  have HB23_3 := Lib.hid (HB22_3.out.other hk23 (by decide) 3)
                  clear hr23 hk23
                  generalize paint col6 w22x w23x 3 = col23 at *
                  refine hK _ _ (HB23_0.out.1) ?_
                  clear hK K
                  simp only [Act.put, List.setIfInBounds_toArray, List.set_cons_zero, List.set_cons_succ]
                  refine held_step (i := 7) rfl (by kernel_rfl) ?_ (fun K hK => ?_)
                  · rfl
                  refine op_append_at (Sh := intS) 70 rfl (.tmp 67) (.tmp 69) 44 rfl Tryd.underlying44 info_int rfl u10 ds.length (lens ds) rfl HT23.out.n b14 1 ((Rc.len r.r : Nat) : Int) rfl HB23_2.out.1 hds.1 hds.2.1 ?_
                  intro v24 w24x hr24 hk24
                  have HT24 := Lib.hid (HT23.out.onN hr24 hk24)
                  have HB24_0 := Lib.hid (HB23_0.out.other hk24 (by decide) 4)
                  have HB24_3 := Lib.hid (HB23_3.out.other hk24 (by decide) 4)
                  clear hr24 hk24
                  generalize paint col23 w23x w24x 4 = col24 at *
                  refine hK _ _ (HB24_0.out.1) ?_
                  clear hK K
                  simp only [Act.put, List.setIfInBounds_toArray, List.set_cons_zero, List.set_cons_succ]
                  refine held_step (i := 11) rfl (by kernel_rfl) ?_ (fun K hK => ?_)
                  · rfl
                  refine op_append_at (Sh := recS) 74 rfl (.tmp 71) (.tmp 73) 55 rfl Tryd.underlying55 info_rec rfl u11 ds.length (recs ds) rfl HT24.out.r b22 1 r rfl HB24_3.out.1 hds.1 hds.2.2 ?_
                  intro v25 w25x hr25 hk25
                  have HT25 := Lib.hid (HT24.out.onR hr25 hk25)
                  have HB25_0 := Lib.hid (HB24_0.out.other hk25 (by decide) 6)
                  clear hr25 hk25
                  generalize paint col24 w24x w25x 6 = col25 at *
                  refine hK _ _ (HB25_0.out.1) ?_
                  clear hK K
                  simp only [Act.put, List.setIfInBounds_toArray, List.set_cons_zero, List.set_cons_succ]
                  refine held_take (i := 12) (v := ?_) (d := some 9) rfl rfl (by kernel_rfl) (by kernel_rfl) (by kernel_rfl) (fun _ _ _ h => h) (HB25_0.out.1) ⟨?_, fun w hSw => ?_⟩ ?_
                  rotate_left 1
                  · rfl
                  · (go_simp; all_goals with_reducible rfl)
                  simp only [Act.put, List.setIfInBounds_toArray, List.set_cons_zero, List.set_cons_succ]
                  refine held_take (i := 13) (v := ?_) (d := some 10) rfl rfl (by kernel_rfl) (by kernel_rfl) (by kernel_rfl) (fun _ _ _ h => h) (HB25_0.out.1) ⟨?_, fun w hSw => ?_⟩ ?_
                  rotate_left 1
                  · rfl
                  · (go_simp; all_goals with_reducible rfl)
                  simp only [Act.put, List.setIfInBounds_toArray, List.set_cons_zero, List.set_cons_succ]
                  refine held_take (i := 14) (v := ?_) (d := some 11) rfl rfl (by kernel_rfl) (by kernel_rfl) (by kernel_rfl) (fun _ _ _ h => h) (HB25_0.out.1) ⟨?_, fun w hSw => ?_⟩ ?_
                  rotate_left 1
                  · rfl
                  · (go_simp; all_goals with_reducible rfl)
                  simp only [Act.put, List.setIfInBounds_toArray, List.set_cons_zero, List.set_cons_succ]
                  refine wpAnyH_done (by kernel_rfl) ?_ _
                  (try go_wp2_with fail)
                  go_meet
                  exact ⟨_, HE.out _ _ _ _ _ HT25.out⟩
              · go_simp
                have HT26 := Lib.hid (HT1.out.new ((Below.refl _ w1x).alloc (Nat.le_refl _) (.cells #[.int .i64 r.kd, .slice r.A1 r.n1 r.c1, .slice r.A2 r.n2 r.c2, .int .i64 r.x] 38)))
                have HB26_0 := Lib.hid (HB1_0.out.new ((Below.refl _ w1x).alloc (Nat.le_refl _) (.cells #[.int .i64 r.kd, .slice r.A1 r.n1 r.c1, .slice r.A2 r.n2 r.c2, .int .i64 r.x] 38)))
                have HB26_1 := Lib.hid (HB1_1.out.new ((Below.refl _ w1x).alloc (Nat.le_refl _) (.cells #[.int .i64 r.kd, .slice r.A1 r.n1 r.c1, .slice r.A2 r.n2 r.c2, .int .i64 r.x] 38)))
                have HB26_3 := Lib.hid (Free.made HT1.out.colr (.cells #[.int .i64 r.kd, .slice r.A1 r.n1 r.c1, .slice r.A2 r.n2 r.c2, .int .i64 r.x] 38))
                generalize w1x.alloc (.cells #[.int .i64 r.kd, .slice r.A1 r.n1 r.c1, .slice r.A2 r.n2 r.c2, .int .i64 r.x] 38) = w26x at *
                generalize w1x.heap.size = b26 at *
                refine hK _ _ (HB26_0.out.1) ?_
                clear hK K
                simp only [List.setIfInBounds_toArray, List.set_cons_zero, List.set_cons_succ]
                refine hold_two (i := 3) (j := 6) rfl rfl (by kernel_rfl) (by rfl) (by rfl) (fun K hK => ?_) (fun K hK => ?_)
                · refine op_append_at (Sh := intS) 66 rfl (.tmp 63) (.tmp 65) 44 rfl Tryd.underlying44 info_int rfl u9 ds.length (offs ds) rfl HT26.out.o b1 1 ((st.length : Nat) : Int) rfl HB26_1.out.1 hds.1 hds.2.1 ?_
                  intro v27 w27x hr27 hk27
                  have HT27 := Lib.hid (HT26.out.onO hr27 hk27)
                  have HB27_0 := Lib.hid (HB26_0.out.other hk27 (by decide) 3)
                  have HB27_3 := Lib.hid (HB26_3.out.other hk27 (by decide) 3)
                  clear hr27 hk27
                  generalize paint col6 w26x w27x 3 = col27 at *
                  refine hK _ _ (HB27_0.out.1) ?_
                  clear hK K
                  simp only [Act.put, List.setIfInBounds_toArray, List.set_cons_zero, List.set_cons_succ]
                  refine held_step (i := 6) rfl (by kernel_rfl) ?_ (fun K hK => ?_)
                  · rfl
                  go_simp
                  have HT28 := Lib.hid (HT27.out.new ((Below.refl _ w27x).alloc (Nat.le_refl _) (.cells #[.int .i64 ((Rc.len r.r : Nat) : Int)] 3)))
                  have HB28_0 := Lib.hid (HB27_0.out.new ((Below.refl _ w27x).alloc (Nat.le_refl _) (.cells #[.int .i64 ((Rc.len r.r : Nat) : Int)] 3)))
                  have HB28_3 := Lib.hid (HB27_3.out.new ((Below.refl _ w27x).alloc (Nat.le_refl _) (.cells #[.int .i64 ((Rc.len r.r : Nat) : Int)] 3)))
                  have HB28_2 := Lib.hid (Free.made HT27.out.colr (.cells #[.int .i64 ((Rc.len r.r : Nat) : Int)] 3))
                  generalize w27x.alloc (.cells #[.int .i64 ((Rc.len r.r : Nat) : Int)] 3) = w28x at *
                  generalize w27x.heap.size = b28 at *
                  refine hK _ _ (HB28_0.out.1) ?_
                  clear hK K
                  simp only [List.setIfInBounds_toArray, List.set_cons_zero, List.set_cons_succ]
                  refine held_step (i := 7) rfl (by kernel_rfl) ?_ (fun K hK => ?_)
                  · rfl
                  refine op_append_at (Sh := intS) 70 rfl (.tmp 67) (.tmp 69) 44 rfl Tryd.underlying44 info_int rfl u10 ds.length (lens ds) rfl HT28.out.n b28 1 ((Rc.len r.r : Nat) : Int) rfl HB28_2.out.1 hds.1 hds.2.1 ?_
                  intro v29 w29x hr29 hk29
                  have HT29 := Lib.hid (HT28.out.onN hr29 hk29)
                  have HB29_0 := Lib.hid (HB28_0.out.other hk29 (by decide) 4)
                  have HB29_3 := Lib.hid (HB28_3.out.other hk29 (by decide) 4)
                  clear hr29 hk29
                  generalize paint col27 w28x w29x 4 = col29 at *
                  refine hK _ _ (HB29_0.out.1) ?_
                  clear hK K
                  simp only [Act.put, List.setIfInBounds_toArray, List.set_cons_zero, List.set_cons_succ]
                  refine held_step (i := 11) rfl (by kernel_rfl) ?_ (fun K hK => ?_)
                  · rfl
                  refine op_append_at (Sh := recS) 74 rfl (.tmp 71) (.tmp 73) 55 rfl Tryd.underlying55 info_rec rfl u11 ds.length (recs ds) rfl HT29.out.r b26 1 r rfl HB29_3.out.1 hds.1 hds.2.2 ?_
                  intro v30 w30x hr30 hk30
                  have HT30 := Lib.hid (HT29.out.onR hr30 hk30)
                  have HB30_0 := Lib.hid (HB29_0.out.other hk30 (by decide) 6)
                  clear hr30 hk30
                  generalize paint col29 w29x w30x 6 = col30 at *
                  refine hK _ _ (HB30_0.out.1) ?_
                  clear hK K
                  simp only [Act.put, List.setIfInBounds_toArray, List.set_cons_zero, List.set_cons_succ]
                  refine held_take (i := 12) (v := ?_) (d := some 9) rfl rfl (by kernel_rfl) (by kernel_rfl) (by kernel_rfl) (fun _ _ _ h => h) (HB30_0.out.1) ⟨?_, fun w hSw => ?_⟩ ?_
                  rotate_left 1
                  · rfl
                  · (go_simp; all_goals with_reducible rfl)
                  simp only [Act.put, List.setIfInBounds_toArray, List.set_cons_zero, List.set_cons_succ]
                  refine held_take (i := 13) (v := ?_) (d := some 10) rfl rfl (by kernel_rfl) (by kernel_rfl) (by kernel_rfl) (fun _ _ _ h => h) (HB30_0.out.1) ⟨?_, fun w hSw => ?_⟩ ?_
                  rotate_left 1
                  · rfl
                  · (go_simp; all_goals with_reducible rfl)
                  simp only [Act.put, List.setIfInBounds_toArray, List.set_cons_zero, List.set_cons_succ]
                  refine held_take (i := 14) (v := ?_) (d := some 11) rfl rfl (by kernel_rfl) (by kernel_rfl) (by kernel_rfl) (fun _ _ _ h => h) (HB30_0.out.1) ⟨?_, fun w hSw => ?_⟩ ?_
                  rotate_left 1
                  · rfl
                  · (go_simp; all_goals with_reducible rfl)
                  simp only [Act.put, List.setIfInBounds_toArray, List.set_cons_zero, List.set_cons_succ]
                  refine wpAnyH_done (by kernel_rfl) ?_ _
                  (try go_wp2_with fail)
                  go_meet
                  exact ⟨_, HE.out _ _ _ _ _ HT30.out⟩
                · go_simp
                  have HT31 := Lib.hid (HT26.out.new ((Below.refl _ w26x).alloc (Nat.le_refl _) (.cells #[.int .i64 ((Rc.len r.r : Nat) : Int)] 3)))
                  have HB31_0 := Lib.hid (HB26_0.out.new ((Below.refl _ w26x).alloc (Nat.le_refl _) (.cells #[.int .i64 ((Rc.len r.r : Nat) : Int)] 3)))
                  have HB31_1 := Lib.hid (HB26_1.out.new ((Below.refl _ w26x).alloc (Nat.le_refl _) (.cells #[.int .i64 ((Rc.len r.r : Nat) : Int)] 3)))
                  have HB31_3 := Lib.hid (HB26_3.out.new ((Below.refl _ w26x).alloc (Nat.le_refl _) (.cells #[.int .i64 ((Rc.len r.r : Nat) : Int)] 3)))
                  have HB31_2 := Lib.hid (Free.made HT26.out.colr (.cells #[.int .i64 ((Rc.len r.r : Nat) : Int)] 3))
                  generalize w26x.alloc (.cells #[.int .i64 ((Rc.len r.r : Nat) : Int)] 3) = w31x at *
                  generalize w26x.heap.size = b31 at *
                  refine hK _ _ (HB31_0.out.1) ?_
                  clear hK K
                  simp only [List.setIfInBounds_toArray, List.set_cons_zero, List.set_cons_succ]
                  refine held_step (i := 3) rfl (by kernel_rfl) ?_ (fun K hK => ?_)
                  · rfl
                  refine op_append_at (Sh := intS) 66 rfl (.tmp 63) (.tmp 65) 44 rfl Tryd.underlying44 info_int rfl u9 ds.length (offs ds) rfl HT31.out.o b1 1 ((st.length : Nat) : Int) rfl HB31_1.out.1 hds.1 hds.2.1 ?_
                  intro v32 w32x hr32 hk32
                  have HT32 := Lib.hid (HT31.out.onO hr32 hk32)
                  have HB32_0 := Lib.hid (HB31_0.out.other hk32 (by decide) 3)
                  have HB32_3 := Lib.hid (HB31_3.out.other hk32 (by decide) 3)
                  have HB32_2 := Lib.hid (HB31_2.out.other hk32 (by decide) 3)
                  clear hr32 hk32
                  generalize paint col6 w31x w32x 3 = col32 at *
                  refine hK _ _ (HB32_0.out.1) ?_
                  clear hK K
                  simp only [Act.put, List.setIfInBounds_toArray, List.set_cons_zero, List.set_cons_succ]
                  refine held_step (i := 7) rfl (by kernel_rfl) ?_ (fun K hK => ?_)
                  · rfl
                  refine op_append_at (Sh := intS) 70 rfl (.tmp 67) (.tmp 69) 44 rfl Tryd.underlying44 info_int rfl u10 ds.length (lens ds) rfl HT32.out.n b31 1 ((Rc.len r.r : Nat) : Int) rfl HB32_2.out.1 hds.1 hds.2.1 ?_
                  intro v33 w33x hr33 hk33
                  have HT33 := Lib.hid (HT32.out.onN hr33 hk33)
                  have HB33_0 := Lib.hid (HB32_0.out.other hk33 (by decide) 4)
                  have HB33_3 := Lib.hid (HB32_3.out.other hk33 (by decide) 4)
                  clear hr33 hk33
                  generalize paint col32 w32x w33x 4 = col33 at *
                  refine hK _ _ (HB33_0.out.1) ?_
                  clear hK K
                  simp only [Act.put, List.setIfInBounds_toArray, List.set_cons_zero, List.set_cons_succ]
                  refine held_step (i := 11) rfl (by kernel_rfl) ?_ (fun K hK => ?_)
                  · rfl
                  refine op_append_at (Sh := recS) 74 rfl (.tmp 71) (.tmp 73) 55 rfl Tryd.underlying55 info_rec rfl u11 ds.length (recs ds) rfl HT33.out.r b26 1 r rfl HB33_3.out.1 hds.1 hds.2.2 ?_
                  intro v34 w34x hr34 hk34
                  have HT34 := Lib.hid (HT33.out.onR hr34 hk34)
                  have HB34_0 := Lib.hid (HB33_0.out.other hk34 (by decide) 6)
                  clear hr34 hk34
                  generalize paint col33 w33x w34x 6 = col34 at *
                  refine hK _ _ (HB34_0.out.1) ?_
                  clear hK K
                  simp only [Act.put, List.setIfInBounds_toArray, List.set_cons_zero, List.set_cons_succ]
                  refine held_take (i := 12) (v := ?_) (d := some 9) rfl rfl (by kernel_rfl) (by kernel_rfl) (by kernel_rfl) (fun _ _ _ h => h) (HB34_0.out.1) ⟨?_, fun w hSw => ?_⟩ ?_
                  rotate_left 1
                  · rfl
                  · (go_simp; all_goals with_reducible rfl)
                  simp only [Act.put, List.setIfInBounds_toArray, List.set_cons_zero, List.set_cons_succ]
                  refine held_take (i := 13) (v := ?_) (d := some 10) rfl rfl (by kernel_rfl) (by kernel_rfl) (by kernel_rfl) (fun _ _ _ h => h) (HB34_0.out.1) ⟨?_, fun w hSw => ?_⟩ ?_
                  rotate_left 1
                  · rfl
                  · (go_simp; all_goals with_reducible rfl)
                  simp only [Act.put, List.setIfInBounds_toArray, List.set_cons_zero, List.set_cons_succ]
                  refine held_take (i := 14) (v := ?_) (d := some 11) rfl rfl (by kernel_rfl) (by kernel_rfl) (by kernel_rfl) (fun _ _ _ h => h) (HB34_0.out.1) ⟨?_, fun w hSw => ?_⟩ ?_
                  rotate_left 1
                  · rfl
                  · (go_simp; all_goals with_reducible rfl)
                  simp only [Act.put, List.setIfInBounds_toArray, List.set_cons_zero, List.set_cons_succ]
                  refine wpAnyH_done (by kernel_rfl) ?_ _
                  (try go_wp2_with fail)
                  go_meet
                  exact ⟨_, HE.out _ _ _ _ _ HT34.out⟩
            · go_simp
              have HT35 := Lib.hid (HTa.out.new ((Below.refl _ wa).alloc (Nat.le_refl _) (.cells #[.int .i64 ((Rc.len r.r : Nat) : Int)] 3)))
              have HB35_0 := Lib.hid (HBa.out.new ((Below.refl _ wa).alloc (Nat.le_refl _) (.cells #[.int .i64 ((Rc.len r.r : Nat) : Int)] 3)))
              have HB35_2 := Lib.hid (Free.made HTa.out.colr (.cells #[.int .i64 ((Rc.len r.r : Nat) : Int)] 3))
              generalize wa.alloc (.cells #[.int .i64 ((Rc.len r.r : Nat) : Int)] 3) = w35x at *
              generalize wa.heap.size = b35 at *
              refine hK _ _ (HB35_0.out.1) ?_
              clear hK K
              simp only [List.setIfInBounds_toArray, List.set_cons_zero, List.set_cons_succ]
              refine hold_two (i := 2) (j := 10) rfl rfl (by kernel_rfl) (by rfl) (by rfl) (fun K hK => ?_) (fun K hK => ?_)
              · go_simp
                have HT36 := Lib.hid (HT35.out.new ((Below.refl _ w35x).alloc (Nat.le_refl _) (.cells #[.int .i64 ((st.length : Nat) : Int)] 3)))
                have HB36_0 := Lib.hid (HB35_0.out.new ((Below.refl _ w35x).alloc (Nat.le_refl _) (.cells #[.int .i64 ((st.length : Nat) : Int)] 3)))
                have HB36_2 := Lib.hid (HB35_2.out.new ((Below.refl _ w35x).alloc (Nat.le_refl _) (.cells #[.int .i64 ((st.length : Nat) : Int)] 3)))
                have HB36_1 := Lib.hid (Free.made HT35.out.colr (.cells #[.int .i64 ((st.length : Nat) : Int)] 3))
                generalize w35x.alloc (.cells #[.int .i64 ((st.length : Nat) : Int)] 3) = w36x at *
                generalize w35x.heap.size = b36 at *
                refine hK _ _ (HB36_0.out.1) ?_
                clear hK K
                simp only [List.setIfInBounds_toArray, List.set_cons_zero, List.set_cons_succ]
                refine hold_two (i := 3) (j := 10) rfl rfl (by kernel_rfl) (by rfl) (by rfl) (fun K hK => ?_) (fun K hK => ?_)
                · refine op_append_at (Sh := intS) 66 rfl (.tmp 63) (.tmp 65) 44 rfl Tryd.underlying44 info_int rfl u9 ds.length (offs ds) rfl HT36.out.o b36 1 ((st.length : Nat) : Int) rfl HB36_1.out.1 hds.1 hds.2.1 ?_
                  intro v37 w37x hr37 hk37
                  have HT37 := Lib.hid (HT36.out.onO hr37 hk37)
                  have HB37_0 := Lib.hid (HB36_0.out.other hk37 (by decide) 3)
                  have HB37_2 := Lib.hid (HB36_2.out.other hk37 (by decide) 3)
                  clear hr37 hk37
                  generalize paint col6 w36x w37x 3 = col37 at *
                  refine hK _ _ (HB37_0.out.1) ?_
                  clear hK K
                  simp only [Act.put, List.setIfInBounds_toArray, List.set_cons_zero, List.set_cons_succ]
                  refine hold_two (i := 7) (j := 10) rfl rfl (by kernel_rfl) (by rfl) (by rfl) (fun K hK => ?_) (fun K hK => ?_)
                  · refine op_append_at (Sh := intS) 70 rfl (.tmp 67) (.tmp 69) 44 rfl Tryd.underlying44 info_int rfl u10 ds.length (lens ds) rfl HT37.out.n b35 1 ((Rc.len r.r : Nat) : Int) rfl HB37_2.out.1 hds.1 hds.2.1 ?_
                    intro v38 w38x hr38 hk38
                    have HT38 := Lib.hid (HT37.out.onN hr38 hk38)
                    have HB38_0 := Lib.hid (HB37_0.out.other hk38 (by decide) 4)
                    clear hr38 hk38
                    generalize paint col37 w37x w38x 4 = col38 at *
                    refine hK _ _ (HB38_0.out.1) ?_
                    clear hK K
                    simp only [Act.put, List.setIfInBounds_toArray, List.set_cons_zero, List.set_cons_succ]
                    refine held_step (i := 10) rfl (by kernel_rfl) ?_ (fun K hK => ?_)
                    · rfl
                    go_simp
                    have HT39 := Lib.hid (HT38.out.new ((Below.refl _ w38x).alloc (Nat.le_refl _) (.cells #[.int .i64 r.kd, .slice r.A1 r.n1 r.c1, .slice r.A2 r.n2 r.c2, .int .i64 r.x] 38)))
                    have HB39_0 := Lib.hid (HB38_0.out.new ((Below.refl _ w38x).alloc (Nat.le_refl _) (.cells #[.int .i64 r.kd, .slice r.A1 r.n1 r.c1, .slice r.A2 r.n2 r.c2, .int .i64 r.x] 38)))
                    have HB39_3 := Lib.hid (Free.made HT38.out.colr (.cells #[.int .i64 r.kd, .slice r.A1 r.n1 r.c1, .slice r.A2 r.n2 r.c2, .int .i64 r.x] 38))
                    generalize w38x.alloc (.cells #[.int .i64 r.kd, .slice r.A1 r.n1 r.c1, .slice r.A2 r.n2 r.c2, .int .i64 r.x] 38) = w39x at *
                    generalize w38x.heap.size = b39 at *
                    refine hK _ _ (HB39_0.out.1) ?_
                    clear hK K
                    simp only [List.setIfInBounds_toArray, List.set_cons_zero, List.set_cons_succ]
                    refine held_step (i := 11) rfl (by kernel_rfl) ?_ (fun K hK => ?_)
                    · rfl
                    refine op_append_at (Sh := recS) 74 rfl (.tmp 71) (.tmp 73) 55 rfl Tryd.underlying55 info_rec rfl u11 ds.length (recs ds) rfl HT39.out.r b39 1 r rfl HB39_3.out.1 hds.1 hds.2.2 ?_
                    intro v40 w40x hr40 hk40
                    have HT40 := Lib.hid (HT39.out.onR hr40 hk40)
                    have HB40_0 := Lib.hid (HB39_0.out.other hk40 (by decide) 6)
                    clear hr40 hk40
                    generalize paint col38 w39x w40x 6 = col40 at *
                    refine hK _ _ (HB40_0.out.1) ?_
                    clear hK K
                    simp only [Act.put, List.setIfInBounds_toArray, List.set_cons_zero, List.set_cons_succ]
                    refine held_take (i := 12) (v := ?_) (d := some 9) rfl rfl (by kernel_rfl) (by kernel_rfl) (by kernel_rfl) (fun _ _ _ h => h) (HB40_0.out.1) ⟨?_, fun w hSw => ?_⟩ ?_
                    rotate_left 1
                    · rfl
                    · (go_simp; all_goals with_reducible rfl)
                    simp only [Act.put, List.setIfInBounds_toArray, List.set_cons_zero, List.set_cons_succ]
                    refine held_take (i := 13) (v := ?_) (d := some 10) rfl rfl (by kernel_rfl) (by kernel_rfl) (by kernel_rfl) (fun _ _ _ h => h) (HB40_0.out.1) ⟨?_, fun w hSw => ?_⟩ ?_
                    rotate_left 1
                    · rfl
                    · (go_simp; all_goals with_reducible rfl)
                    simp only [Act.put, List.setIfInBounds_toArray, List.set_cons_zero, List.set_cons_succ]
                    refine held_take (i := 14) (v := ?_) (d := some 11) rfl rfl (by kernel_rfl) (by kernel_rfl) (by kernel_rfl) (fun _ _ _ h => h) (HB40_0.out.1) ⟨?_, fun w hSw => ?_⟩ ?_
                    rotate_left 1
                    · rfl
                    · (go_simp; all_goals with_reducible rfl)
                    simp only [Act.put, List.setIfInBounds_toArray, List.set_cons_zero, List.set_cons_succ]
                    refine wpAnyH_done (by kernel_rfl) ?_ _
                    (try go_wp2_with fail)
                    go_meet
                    exact ⟨_, HE.out _ _ _ _ _ HT40.out⟩
                  · go_simp
                    have HT41 := Lib.hid (HT37.out.new ((Below.refl _ w37x).alloc (Nat.le_refl _) (.cells #[.int .i64 r.kd, .slice r.A1 r.n1 r.c1, .slice r.A2 r.n2 r.c2, .int .i64 r.x] 38)))
                    have HB41_0 := Lib.hid (HB37_0.out.new ((Below.refl _ w37x).alloc (Nat.le_refl _) (.cells #[.int .i64 r.kd, .slice r.A1 r.n1 r.c1, .slice r.A2 r.n2 r.c2, .int .i64 r.x] 38)))
                    have HB41_2 := Lib.hid (HB37_2.out.new ((Below.refl _ w37x).alloc (Nat.le_refl _) (.cells #[.int .i64 r.kd, .slice r.A1 r.n1 r.c1, .slice r.A2 r.n2 r.c2, .int .i64 r.x] 38)))
                    have HB41_3 := Lib.hid (Free.made HT37.out.colr (.cells #[.int .i64 r.kd, .slice r.A1 r.n1 r.c1, .slice r.A2 r.n2 r.c2, .int .i64 r.x] 38))
                    generalize w37x.alloc (.cells #[.int .i64 r.kd, .slice r.A1 r.n1 r.c1, .slice r.A2 r.n2 r.c2, .int .i64 r.x] 38) = w41x at *
                    generalize w37x.heap.size = b41 at *
                    refine hK _ _ (HB41_0.out.1) ?_
                    clear hK K
                    simp only [List.setIfInBounds_toArray, List.set_cons_zero, List.set_cons_succ]
                    refine held_step (i := 7) rfl (by kernel_rfl) ?_ (fun K hK => ?_)
                    · rfl
                    refine op_append_at (Sh := intS) 70 rfl (.tmp 67) (.tmp 69) 44 rfl Tryd.underlying44 info_int rfl u10 ds.length (lens ds) rfl HT41.out.n b35 1 ((Rc.len r.r : Nat) : Int) rfl HB41_2.out.1 hds.1 hds.2.1 ?_
                    intro v42 w42x hr42 hk42
                    have HT42 := Lib.hid (HT41.out.onN hr42 hk42)
                    have HB42_0 := Lib.hid (HB41_0.out.other hk42 (by decide) 4)
                    have HB42_3 := Lib.hid (HB41_3.out.other hk42 (by decide) 4)
                    clear hr42 hk42
                    generalize paint col37 w41x w42x 4 = col42 at *
                    refine hK _ _ (HB42_0.out.1) ?_
                    clear hK K
                    simp only [Act.put, List.setIfInBounds_toArray, List.set_cons_zero, List.set_cons_succ]
                    refine held_step (i := 11) rfl (by kernel_rfl) ?_ (fun K hK => ?_)
                    · rfl
                    refine op_append_at (Sh := recS) 74 rfl (.tmp 71) (.tmp 73) 55 rfl Tryd.underlying55 info_rec rfl u11 ds.length (recs ds) rfl HT42.out.r b41 1 r rfl HB42_3.out.1 hds.1 hds.2.2 ?_
                    intro v43 w43x hr43 hk43
                    have HT43 := Lib.hid (HT42.out.onR hr43 hk43)
                    have HB43_0 := Lib.hid (HB42_0.out.other hk43 (by decide) 6)
                    clear hr43 hk43
                    generalize paint col42 w42x w43x 6 = col43 at *
                    refine hK _ _ (HB43_0.out.1) ?_
                    clear hK K
                    simp only [Act.put, List.setIfInBounds_toArray, List.set_cons_zero, List.set_cons_succ]
                    refine held_take (i := 12) (v := ?_) (d := some 9) rfl rfl (by kernel_rfl) (by kernel_rfl) (by kernel_rfl) (fun _ _ _ h => h) (HB43_0.out.1) ⟨?_, fun w hSw => ?_⟩ ?_
                    rotate_left 1
                    · rfl
                    · (go_simp; all_goals with_reducible rfl)
                    simp only [Act.put, List.setIfInBounds_toArray, List.set_cons_zero, List.set_cons_succ]
                    refine held_take (i := 13) (v := ?_) (d := some 10) rfl rfl (by kernel_rfl) (by kernel_rfl) (by kernel_rfl) (fun _ _ _ h => h) (HB43_0.out.1) ⟨?_, fun w hSw => ?_⟩ ?_
                    rotate_left 1
                    · rfl
                    · (go_simp; all_goals with_reducible rfl)
                    simp only [Act.put, List.setIfInBounds_toArray, List.set_cons_zero, List.set_cons_succ]
                    refine held_take (i := 14) (v := ?_) (d := some 11) rfl rfl (by kernel_rfl) (by kernel_rfl) (by kernel_rfl) (fun _ _ _ h => h) (HB43_0.out.1) ⟨?_, fun w hSw => ?_⟩ ?_
                    rotate_left 1
                    · rfl
                    · (go_simp; all_goals with_reducible rfl)
                    simp only [Act.put, List.setIfInBounds_toArray, List.set_cons_zero, List.set_cons_succ]
                    refine wpAnyH_done (by kernel_rfl) ?_ _
                    (try go_wp2_with fail)
                    go_meet
                    exact ⟨_, HE.out _ _ _ _ _ HT43.out⟩
                · go_simp
                  have HT44 := Lib.hid (HT36.out.new ((Below.refl _ w36x).alloc (Nat.le_refl _) (.cells #[.int .i64 r.kd, .slice r.A1 r.n1 r.c1, .slice r.A2 r.n2 r.c2, .int .i64 r.x] 38)))
                  have HB44_0 := Lib.hid (HB36_0.out.new ((Below.refl _ w36x).alloc (Nat.le_refl _) (.cells #[.int .i64 r.kd, .slice r.A1 r.n1 r.c1, .slice r.A2 r.n2 r.c2, .int .i64 r.x] 38)))
                  have HB44_2 := Lib.hid (HB36_2.out.new ((Below.refl _ w36x).alloc (Nat.le_refl _) (.cells #[.int .i64 r.kd, .slice r.A1 r.n1 r.c1, .slice r.A2 r.n2 r.c2, .int .i64 r.x] 38)))
                  have HB44_1 := Lib.hid (HB36_1.out.new ((Below.refl _ w36x).alloc (Nat.le_refl _) (.cells #[.int .i64 r.kd, .slice r.A1 r.n1 r.c1, .slice r.A2 r.n2 r.c2, .int .i64 r.x] 38)))
                  have HB44_3 := Lib.hid (Free.made HT36.out.colr (.cells #[.int .i64 r.kd, .slice r.A1 r.n1 r.c1, .slice r.A2 r.n2 r.c2, .int .i64 r.x] 38))
                  generalize w36x.alloc (.cells #[.int .i64 r.kd, .slice r.A1 r.n1 r.c1, .slice r.A2 r.n2 r.c2, .int .i64 r.x] 38) = w44x at *
                  generalize w36x.heap.size = b44 at *
                  refine hK _ _ (HB44_0.out.1) ?_
                  clear hK K
                  simp only [List.setIfInBounds_toArray, List.set_cons_zero, List.set_cons_succ]
                  refine held_step (i := 3) rfl (by kernel_rfl) ?_ (fun K hK => ?_)
                  · rfl
                  refine op_append_at (Sh := intS) 66 rfl (.tmp 63) (.tmp 65) 44 rfl Tryd.underlying44 info_int rfl u9 ds.length (offs ds) rfl HT44.out.o b36 1 ((st.length : Nat) : Int) rfl HB44_1.out.1 hds.1 hds.2.1 ?_
                  intro v45 w45x hr45 hk45
                  have HT45 := Lib.hid (HT44.out.onO hr45 hk45)
                  have HB45_0 := Lib.hid (HB44_0.out.other hk45 (by decide) 3)
                  have HB45_2 := Lib.hid (HB44_2.out.other hk45 (by decide) 3)
                  have HB45_3 := Lib.hid (HB44_3.out.other hk45 (by decide) 3)
                  clear hr45 hk45
                  generalize paint col6 w44x w45x 3 = col45 at *
                  refine hK _ _ (HB45_0.out.1) ?_
                  clear hK K
                  simp only [Act.put, List.setIfInBounds_toArray, List.set_cons_zero, List.set_cons_succ]
                  refine held_step (i := 7) rfl (by kernel_rfl) ?_ (fun K hK => ?_)
                  · rfl
                  refine op_append_at (Sh := intS) 70 rfl (.tmp 67) (.tmp 69) 44 rfl Tryd.underlying44 info_int rfl u10 ds.length (lens ds) rfl HT45.out.n b35 1 ((Rc.len r.r : Nat) : Int) rfl HB45_2.out.1 hds.1 hds.2.1 ?_
                  intro v46 w46x hr46 hk46
                  have HT46 := Lib.hid (HT45.out.onN hr46 hk46)
                  have HB46_0 := Lib.hid (HB45_0.out.other hk46 (by decide) 4)
                  have HB46_3 := Lib.hid (HB45_3.out.other hk46 (by decide) 4)
                  clear hr46 hk46
                  generalize paint col45 w45x w46x 4 = col46 at *
                  refine hK _ _ (HB46_0.out.1) ?_
                  clear hK K
                  simp only [Act.put, List.setIfInBounds_toArray, List.set_cons_zero, List.set_cons_succ]
                  refine held_step (i := 11) rfl (by kernel_rfl) ?_ (fun K hK => ?_)
                  · rfl
                  refine op_append_at (Sh := recS) 74 rfl (.tmp 71) (.tmp 73) 55 rfl Tryd.underlying55 info_rec rfl u11 ds.length (recs ds) rfl HT46.out.r b44 1 r rfl HB46_3.out.1 hds.1 hds.2.2 ?_
                  intro v47 w47x hr47 hk47
                  have HT47 := Lib.hid (HT46.out.onR hr47 hk47)
                  have HB47_0 := Lib.hid (HB46_0.out.other hk47 (by decide) 6)
                  clear hr47 hk47
                  generalize paint col46 w46x w47x 6 = col47 at *
                  refine hK _ _ (HB47_0.out.1) ?_
                  clear hK K
                  simp only [Act.put, List.setIfInBounds_toArray, List.set_cons_zero, List.set_cons_succ]
                  refine held_take (i := 12) (v := ?_) (d := some 9) rfl rfl (by kernel_rfl) (by kernel_rfl) (by kernel_rfl) (fun _ _ _ h => h) (HB47_0.out.1) ⟨?_, fun w hSw => ?_⟩ ?_
                  rotate_left 1
                  · rfl
                  · (go_simp; all_goals with_reducible rfl)
                  simp only [Act.put, List.setIfInBounds_toArray, List.set_cons_zero, List.set_cons_succ]
                  refine held_take (i := 13) (v := ?_) (d := some 10) rfl rfl (by kernel_rfl) (by kernel_rfl) (by kernel_rfl) (fun _ _ _ h => h) (HB47_0.out.1) ⟨?_, fun w hSw => ?_⟩ ?_
                  rotate_left 1
                  · rfl
                  · (go_simp; all_goals with_reducible rfl)
                  simp only [Act.put, List.setIfInBounds_toArray, List.set_cons_zero, List.set_cons_succ]
                  refine held_take (i := 14) (v := ?_) (d := some 11) rfl rfl (by kernel_rfl) (by kernel_rfl) (by kernel_rfl) (fun _ _ _ h => h) (HB47_0.out.1) ⟨?_, fun w hSw => ?_⟩ ?_
                  rotate_left 1
                  · rfl
                  · (go_simp; all_goals with_reducible rfl)
                  simp only [Act.put, List.setIfInBounds_toArray, List.set_cons_zero, List.set_cons_succ]
                  refine wpAnyH_done (by kernel_rfl) ?_ _
                  (try go_wp2_with fail)
                  go_meet
                  exact ⟨_, HE.out _ _ _ _ _ HT47.out⟩
              · go_simp
                have HT48 := Lib.hid (HT35.out.new ((Below.refl _ w35x).alloc (Nat.le_refl _) (.cells #[.int .i64 r.kd, .slice r.A1 r.n1 r.c1, .slice r.A2 r.n2 r.c2, .int .i64 r.x] 38)))
                have HB48_0 := Lib.hid (HB35_0.out.new ((Below.refl _ w35x).alloc (Nat.le_refl _) (.cells #[.int .i64 r.kd, .slice r.A1 r.n1 r.c1, .slice r.A2 r.n2 r.c2, .int .i64 r.x] 38)))
                have HB48_2 := Lib.hid (HB35_2.out.new ((Below.refl _ w35x).alloc (Nat.le_refl _) (.cells #[.int .i64 r.kd, .slice r.A1 r.n1 r.c1, .slice r.A2 r.n2 r.c2, .int .i64 r.x] 38)))
                have HB48_3 := Lib.hid (Free.made HT35.out.colr (.cells #[.int .i64 r.kd, .slice r.A1 r.n1 r.c1, .slice r.A2 r.n2 r.c2, .int .i64 r.x] 38))
                generalize w35x.alloc (.cells #[.int .i64 r.kd, .slice r.A1 r.n1 r.c1, .slice r.A2 r.n2 r.c2, .int .i64 r.x] 38) = w48x at *
                generalize w35x.heap.size = b48 at *
                refine hK _ _ (HB48_0.out.1) ?_
                clear hK K
                simp only [List.setIfInBounds_toArray, List.set_cons_zero, List.set_cons_succ]
                refine held_step (i := 2) rfl (by kernel_rfl) ?_ (fun K hK => ?_)
                · rfl
                go_simp
                have HT49 := Lib.hid (HT48.out.new ((Below.refl _ w48x).alloc (Nat.le_refl _) (.cells #[.int .i64 ((st.length : Nat) : Int)] 3)))
                have HB49_0 := Lib.hid (HB48_0.out.new ((Below.refl _ w48x).alloc (Nat.le_refl _) (.cells #[.int .i64 ((st.length : Nat) : Int)] 3)))
                have HB49_2 := Lib.hid (HB48_2.out.new ((Below.refl _ w48x).alloc (Nat.le_refl _) (.cells #[.int .i64 ((st.length : Nat) : Int)] 3)))
                have HB49_3 := Lib.hid (HB48_3.out.new ((Below.refl _ w48x).alloc (Nat.le_refl _) (.cells #[.int .i64 ((st.length : Nat) : Int)] 3)))
                have HB49_1 := Lib.hid (Free.made HT48.out.colr (.cells #[.int .i64 ((st.length : Nat) : Int)] 3))
                generalize w48x.alloc (.cells #[.int .i64 ((st.length : Nat) : Int)] 3) = w49x at *
                generalize w48x.heap.size = b49 at *
                refine hK _ _ (HB49_0.out.1) ?_
                clear hK K
                simp only [List.setIfInBounds_toArray, List.set_cons_zero, List.set_cons_succ]
                refine held_step (i := 3) rfl (by kernel_rfl) ?_ (fun K hK => ?_)
                · rfl
                refine op_append_at (Sh := intS) 66 rfl (.tmp 63) (.tmp 65) 44 rfl Tryd.underlying44 info_int rfl u9 ds.length (offs ds) rfl HT49.out.o b49 1 ((st.length : Nat) : Int) rfl HB49_1.out.1 hds.1 hds.2.1 ?_
                intro v50 w50x hr50 hk50
                have HT50 := Lib.hid (HT49.out.onO hr50 hk50)
                have HB50_0 := Lib.hid (HB49_0.out.other hk50 (by decide) 3)
                have HB50_2 := Lib.hid (HB49_2.out.other hk50 (by decide) 3)
                have HB50_3 := Lib.hid (HB49_3.out.other hk50 (by decide) 3)
                clear hr50 hk50
                generalize paint col6 w49x w50x 3 = col50 at *
                refine hK _ _ (HB50_0.out.1) ?_
                clear hK K
                simp only [Act.put, List.setIfInBounds_toArray, List.set_cons_zero, List.set_cons_succ]
                refine held_step (i := 7) rfl (by kernel_rfl) ?_ (fun K hK => ?_)
                · rfl
                refine op_append_at (Sh := intS) 70 rfl (.tmp 67) (.tmp 69) 44 rfl Tryd.underlying44 info_int rfl u10 ds.length (lens ds) rfl HT50.out.n b35 1 ((Rc.len r.r : Nat) : Int) rfl HB50_2.out.1 hds.1 hds.2.1 ?_
                intro v51 w51x hr51 hk51
                have HT51 := Lib.hid (HT50.out.onN hr51 hk51)
                have HB51_0 := Lib.hid (HB50_0.out.other hk51 (by decide) 4)
                have HB51_3 := Lib.hid (HB50_3.out.other hk51 (by decide) 4)
                clear hr51 hk51
                generalize paint col50 w50x w51x 4 = col51 at *
                refine hK _ _ (HB51_0.out.1) ?_
                clear hK K
                simp only [Act.put, List.setIfInBounds_toArray, List.set_cons_zero, List.set_cons_succ]
                refine held_step (i := 11) rfl (by kernel_rfl) ?_ (fun K hK => ?_)
                · rfl
                refine op_append_at (Sh := recS) 74 rfl (.tmp 71) (.tmp 73) 55 rfl Tryd.underlying55 info_rec rfl u11 ds.length (recs ds) rfl HT51.out.r b48 1 r rfl HB51_3.out.1 hds.1 hds.2.2 ?_
                intro v52 w52x hr52 hk52
                have HT52 := Lib.hid (HT51.out.onR hr52 hk52)
                have HB52_0 := Lib.hid (HB51_0.out.other hk52 (by decide) 6)
                clear hr52 hk52
                generalize paint col51 w51x w52x 6 = col52 at *
                refine hK _ _ (HB52_0.out.1) ?_
                clear hK K
                simp only [Act.put, List.setIfInBounds_toArray, List.set_cons_zero, List.set_cons_succ]
                refine held_take (i := 12) (v := ?_) (d := some 9) rfl rfl (by kernel_rfl) (by kernel_rfl) (by kernel_rfl) (fun _ _ _ h => h) (HB52_0.out.1) ⟨?_, fun w hSw => ?_⟩ ?_
                rotate_left 1
                · rfl
                · (go_simp; all_goals with_reducible rfl)
                simp only [Act.put, List.setIfInBounds_toArray, List.set_cons_zero, List.set_cons_succ]
                refine held_take (i := 13) (v := ?_) (d := some 10) rfl rfl (by kernel_rfl) (by kernel_rfl) (by kernel_rfl) (fun _ _ _ h => h) (HB52_0.out.1) ⟨?_, fun w hSw => ?_⟩ ?_
                rotate_left 1
                · rfl
                · (go_simp; all_goals with_reducible rfl)
                simp only [Act.put, List.setIfInBounds_toArray, List.set_cons_zero, List.set_cons_succ]
                refine held_take (i := 14) (v := ?_) (d := some 11) rfl rfl (by kernel_rfl) (by kernel_rfl) (by kernel_rfl) (fun _ _ _ h => h) (HB52_0.out.1) ⟨?_, fun w hSw => ?_⟩ ?_
                rotate_left 1
                · rfl
                · (go_simp; all_goals with_reducible rfl)
                simp only [Act.put, List.setIfInBounds_toArray, List.set_cons_zero, List.set_cons_succ]
                refine wpAnyH_done (by kernel_rfl) ?_ _
                (try go_wp2_with fail)
                go_meet
                exact ⟨_, HE.out _ _ _ _ _ HT52.out⟩
            · go_simp
              have HT53 := Lib.hid (HTa.out.new ((Below.refl _ wa).alloc (Nat.le_refl _) (.cells #[.int .i64 r.kd, .slice r.A1 r.n1 r.c1, .slice r.A2 r.n2 r.c2, .int .i64 r.x] 38)))
              have HB53_0 := Lib.hid (HBa.out.new ((Below.refl _ wa).alloc (Nat.le_refl _) (.cells #[.int .i64 r.kd, .slice r.A1 r.n1 r.c1, .slice r.A2 r.n2 r.c2, .int .i64 r.x] 38)))
              have HB53_3 := Lib.hid (Free.made HTa.out.colr (.cells #[.int .i64 r.kd, .slice r.A1 r.n1 r.c1, .slice r.A2 r.n2 r.c2, .int .i64 r.x] 38))
              generalize wa.alloc (.cells #[.int .i64 r.kd, .slice r.A1 r.n1 r.c1, .slice r.A2 r.n2 r.c2, .int .i64 r.x] 38) = w53x at *
              generalize wa.heap.size = b53 at *
              refine hK _ _ (HB53_0.out.1) ?_
              clear hK K
              simp only [List.setIfInBounds_toArray, List.set_cons_zero, List.set_cons_succ]
              refine hold_two (i := 2) (j := 6) rfl rfl (by kernel_rfl) (by rfl) (by rfl) (fun K hK => ?_) (fun K hK => ?_)
              · go_simp
                have HT54 := Lib.hid (HT53.out.new ((Below.refl _ w53x).alloc (Nat.le_refl _) (.cells #[.int .i64 ((st.length : Nat) : Int)] 3)))
                have HB54_0 := Lib.hid (HB53_0.out.new ((Below.refl _ w53x).alloc (Nat.le_refl _) (.cells #[.int .i64 ((st.length : Nat) : Int)] 3)))
                have HB54_3 := Lib.hid (HB53_3.out.new ((Below.refl _ w53x).alloc (Nat.le_refl _) (.cells #[.int .i64 ((st.length : Nat) : Int)] 3)))
                have HB54_1 := Lib.hid (Free.made HT53.out.colr (.cells #[.int .i64 ((st.length : Nat) : Int)] 3))
                generalize w53x.alloc (.cells #[.int .i64 ((st.length : Nat) : Int)] 3) = w54x at *
                generalize w53x.heap.size = b54 at *
                refine hK _ _ (HB54_0.out.1) ?_
                clear hK K
                simp only [List.setIfInBounds_toArray, List.set_cons_zero, List.set_cons_succ]
                refine hold_two (i := 3) (j := 6) rfl rfl (by kernel_rfl) (by rfl) (by rfl) (fun K hK => ?_) (fun K hK => ?_)
                · refine op_append_at (Sh := intS) 66 rfl (.tmp 63) (.tmp 65) 44 rfl Tryd.underlying44 info_int rfl u9 ds.length (offs ds) rfl HT54.out.o b54 1 ((st.length : Nat) : Int) rfl HB54_1.out.1 hds.1 hds.2.1 ?_
                  intro v55 w55x hr55 hk55
                  have HT55 := Lib.hid (HT54.out.onO hr55 hk55)
                  have HB55_0 := Lib.hid (HB54_0.out.other hk55 (by decide) 3)
                  have HB55_3 := Lib.hid (HB54_3.out.other hk55 (by decide) 3)
                  clear hr55 hk55
                  generalize paint col6 w54x w55x 3 = col55 at *
                  refine hK _ _ (HB55_0.out.1) ?_
                  clear hK K
                  simp only [Act.put, List.setIfInBounds_toArray, List.set_cons_zero, List.set_cons_succ]
                  refine held_step (i := 6) rfl (by kernel_rfl) ?_ (fun K hK => ?_)
                  · rfl
                  go_simp
                  have HT56 := Lib.hid (HT55.out.new ((Below.refl _ w55x).alloc (Nat.le_refl _) (.cells #[.int .i64 ((Rc.len r.r : Nat) : Int)] 3)))
                  have HB56_0 := Lib.hid (HB55_0.out.new ((Below.refl _ w55x).alloc (Nat.le_refl _) (.cells #[.int .i64 ((Rc.len r.r : Nat) : Int)] 3)))
                  have HB56_3 := Lib.hid (HB55_3.out.new ((Below.refl _ w55x).alloc (Nat.le_refl _) (.cells #[.int .i64 ((Rc.len r.r : Nat) : Int)] 3)))
                  have HB56_2 := Lib.hid (Free.made HT55.out.colr (.cells #[.int .i64 ((Rc.len r.r : Nat) : Int)] 3))
                  generalize w55x.alloc (.cells #[.int .i64 ((Rc.len r.r : Nat) : Int)] 3) = w56x at *
                  generalize w55x.heap.size = b56 at *
                  refine hK _ _ (HB56_0.out.1) ?_
                  clear hK K
                  simp only [List.setIfInBounds_toArray, List.set_cons_zero, List.set_cons_succ]
                  refine held_step (i := 7) rfl (by kernel_rfl) ?_ (fun K hK => ?_)
                  · rfl
                  refine op_append_at (Sh := intS) 70 rfl (.tmp 67) (.tmp 69) 44 rfl Tryd.underlying44 info_int rfl u10 ds.length (lens ds) rfl HT56.out.n b56 1 ((Rc.len r.r : Nat) : Int) rfl HB56_2.out.1 hds.1 hds.2.1 ?_
                  intro v57 w57x hr57 hk57
                  have HT57 := Lib.hid (HT56.out.onN hr57 hk57)
                  have HB57_0 := Lib.hid (HB56_0.out.other hk57 (by decide) 4)
                  have HB57_3 := Lib.hid (HB56_3.out.other hk57 (by decide) 4)
                  clear hr57 hk57
                  generalize paint col55 w56x w57x 4 = col57 at *
                  refine hK _ _ (HB57_0.out.1) ?_
                  clear hK K
                  simp only [Act.put, List.setIfInBounds_toArray, List.set_cons_zero, List.set_cons_succ]
                  refine held_step (i := 11) rfl (by kernel_rfl) ?_ (fun K hK => ?_)
                  · rfl
                  refine op_append_at (Sh := recS) 74 rfl (.tmp 71) (.tmp 73) 55 rfl Tryd.underlying55 info_rec rfl u11 ds.length (recs ds) rfl HT57.out.r b53 1 r rfl HB57_3.out.1 hds.1 hds.2.2 ?_
                  intro v58 w58x hr58 hk58
                  have HT58 := Lib.hid (HT57.out.onR hr58 hk58)
                  have HB58_0 := Lib.hid (HB57_0.out.other hk58 (by decide) 6)
                  clear hr58 hk58
                  generalize paint col57 w57x w58x 6 = col58 at *
                  refine hK _ _ (HB58_0.out.1) ?_
                  clear hK K
                  simp only [Act.put, List.setIfInBounds_toArray, List.set_cons_zero, List.set_cons_succ]
                  refine held_take (i := 12) (v := ?_) (d := some 9) rfl rfl (by kernel_rfl) (by kernel_rfl) (by kernel_rfl) (fun _ _ _ h => h) (HB58_0.out.1) ⟨?_, fun w hSw => ?_⟩ ?_
                  rotate_left 1
                  · rfl
                  · (go_simp; all_goals with_reducible rfl)
                  simp only [Act.put, List.setIfInBounds_toArray, List.set_cons_zero, List.set_cons_succ]
                  refine held_take (i := 13) (v := ?_) (d := some 10) rfl rfl (by kernel_rfl) (by kernel_rfl) (by kernel_rfl) (fun _ _ _ h => h) (HB58_0.out.1) ⟨?_, fun w hSw => ?_⟩ ?_
                  rotate_left 1
                  · rfl
                  · (go_simp; all_goals with_reducible rfl)
                  simp only [Act.put, List.setIfInBounds_toArray, List.set_cons_zero, List.set_cons_succ]
                  refine held_take (i := 14) (v := ?_) (d := some 11) rfl rfl (by kernel_rfl) (by kernel_rfl) (by kernel_rfl) (fun _ _ _ h => h) (HB58_0.out.1) ⟨?_, fun w hSw => ?_⟩ ?_
                  rotate_left 1
                  · rfl
                  · (go_simp; all_goals with_reducible rfl)
                  simp only [Act.put, List.setIfInBounds_toArray, List.set_cons_zero, List.set_cons_succ]
                  refine wpAnyH_done (by kernel_rfl) ?_ _
                  (try go_wp2_with fail)
                  go_meet
                  exact ⟨_, HE.out _ _ _ _ _ HT58.out⟩
                · go_simp
                  have HT59 := Lib.hid (HT54.out.new ((Below.refl _ w54x).alloc (Nat.le_refl _) (.cells #[.int .i64 ((Rc.len r.r : Nat) : Int)] 3)))
                  have HB59_0 := Lib.hid (HB54_0.out.new ((Below.refl _ w54x).alloc (Nat.le_refl _) (.cells #[.int .i64 ((Rc.len r.r : Nat) : Int)] 3)))
                  have HB59_3 := Lib.hid (HB54_3.out.new ((Below.refl _ w54x).alloc (Nat.le_refl _) (.cells #[.int .i64 ((Rc.len r.r : Nat) : Int)] 3)))
                  have HB59_1 := Lib.hid (HB54_1.out.new ((Below.refl _ w54x).alloc (Nat.le_refl _) (.cells #[.int .i64 ((Rc.len r.r : Nat) : Int)] 3)))
                  have HB59_2 := Lib.hid (Free.made HT54.out.colr (.cells #[.int .i64 ((Rc.len r.r : Nat) : Int)] 3))
                  generalize w54x.alloc (.cells #[.int .i64 ((Rc.len r.r : Nat) : Int)] 3) = w59x at *
                  generalize w54x.heap.size = b59 at *
                  refine hK _ _ (HB59_0.out.1) ?_
                  clear hK K
                  simp only [List.setIfInBounds_toArray, List.set_cons_zero, List.set_cons_succ]
                  refine held_step (i := 3) rfl (by kernel_rfl) ?_ (fun K hK => ?_)
                  · rfl
                  refine op_append_at (Sh := intS) 66 rfl (.tmp 63) (.tmp 65) 44 rfl Tryd.underlying44 info_int rfl u9 ds.length (offs ds) rfl HT59.out.o b54 1 ((st.length : Nat) : Int) rfl HB59_1.out.1 hds.1 hds.2.1 ?_
                  intro v60 w60x hr60 hk60
                  have HT60 := Lib.hid (HT59.out.onO hr60 hk60)
                  have HB60_0 := Lib.hid (HB59_0.out.other hk60 (by decide) 3)
                  have HB60_3 := Lib.hid (HB59_3.out.other hk60 (by decide) 3)
                  have HB60_2 := Lib.hid (HB59_2.out.other hk60 (by decide) 3)
                  clear hr60 hk60
                  generalize paint col6 w59x w60x 3 = col60 at *
                  refine hK _ _ (HB60_0.out.1) ?_
                  clear hK K
                  simp only [Act.put, List.setIfInBounds_toArray, List.set_cons_zero, List.set_cons_succ]
                  refine held_step (i := 7) rfl (by kernel_rfl) ?_ (fun K hK => ?_)
                  · rfl
                  refine op_append_at (Sh := intS) 70 rfl (.tmp 67) (.tmp 69) 44 rfl Tryd.underlying44 info_int rfl u10 ds.length (lens ds) rfl HT60.out.n b59 1 ((Rc.len r.r : Nat) : Int) rfl HB60_2.out.1 hds.1 hds.2.1 ?_
                  intro v61 w61x hr61 hk61
                  have HT61 := Lib.hid (HT60.out.onN hr61 hk61)
                  have HB61_0 := Lib.hid (HB60_0.out.other hk61 (by decide) 4)
                  have HB61_3 := Lib.hid (HB60_3.out.other hk61 (by decide) 4)
                  clear hr61 hk61
                  generalize paint col60 w60x w61x 4 = col61 at *
                  refine hK _ _ (HB61_0.out.1) ?_
                  clear hK K
                  simp only [Act.put, List.setIfInBounds_toArray, List.set_cons_zero, List.set_cons_succ]
                  refine held_step (i := 11) rfl (by kernel_rfl) ?_ (fun K hK => ?_)
                  · rfl
                  refine op_append_at (Sh := recS) 74 rfl (.tmp 71) (.tmp 73) 55 rfl Tryd.underlying55 info_rec rfl u11 ds.length (recs ds) rfl HT61.out.r b53 1 r rfl HB61_3.out.1 hds.1 hds.2.2 ?_
                  intro v62 w62x hr62 hk62
                  have HT62 := Lib.hid (HT61.out.onR hr62 hk62)
                  have HB62_0 := Lib.hid (HB61_0.out.other hk62 (by decide) 6)
                  clear hr62 hk62
                  generalize paint col61 w61x w62x 6 = col62 at *
                  refine hK _ _ (HB62_0.out.1) ?_
                  clear hK K
                  simp only [Act.put, List.setIfInBounds_toArray, List.set_cons_zero, List.set_cons_succ]
                  refine held_take (i := 12) (v := ?_) (d := some 9) rfl rfl (by kernel_rfl) (by kernel_rfl) (by kernel_rfl) (fun _ _ _ h => h) (HB62_0.out.1) ⟨?_, fun w hSw => ?_⟩ ?_
                  rotate_left 1
                  · rfl
                  · (go_simp; all_goals with_reducible rfl)
                  simp only [Act.put, List.setIfInBounds_toArray, List.set_cons_zero, List.set_cons_succ]
                  refine held_take (i := 13) (v := ?_) (d := some 10) rfl rfl (by kernel_rfl) (by kernel_rfl) (by kernel_rfl) (fun _ _ _ h => h) (HB62_0.out.1) ⟨?_, fun w hSw => ?_⟩ ?_
                  rotate_left 1
                  · rfl
                  · (go_simp; all_goals with_reducible rfl)
                  simp only [Act.put, List.setIfInBounds_toArray, List.set_cons_zero, List.set_cons_succ]
                  refine held_take (i := 14) (v := ?_) (d := some 11) rfl rfl (by kernel_rfl) (by kernel_rfl) (by kernel_rfl) (fun _ _ _ h => h) (HB62_0.out.1) ⟨?_, fun w hSw => ?_⟩ ?_
                  rotate_left 1
                  · rfl
                  · (go_simp; all_goals with_reducible rfl)
                  simp only [Act.put, List.setIfInBounds_toArray, List.set_cons_zero, List.set_cons_succ]
                  refine wpAnyH_done (by kernel_rfl) ?_ _
                  (try go_wp2_with fail)
                  go_meet
                  exact ⟨_, HE.out _ _ _ _ _ HT62.out⟩
              · go_simp
                have HT63 := Lib.hid (HT53.out.new ((Below.refl _ w53x).alloc (Nat.le_refl _) (.cells #[.int .i64 ((Rc.len r.r : Nat) : Int)] 3)))
                have HB63_0 := Lib.hid (HB53_0.out.new ((Below.refl _ w53x).alloc (Nat.le_refl _) (.cells #[.int .i64 ((Rc.len r.r : Nat) : Int)] 3)))
                have HB63_3 := Lib.hid (HB53_3.out.new ((Below.refl _ w53x).alloc (Nat.le_refl _) (.cells #[.int .i64 ((Rc.len r.r : Nat) : Int)] 3)))
                have HB63_2 := Lib.hid (Free.made HT53.out.colr (.cells #[.int .i64 ((Rc.len r.r : Nat) : Int)] 3))
                generalize w53x.alloc (.cells #[.int .i64 ((Rc.len r.r : Nat) : Int)] 3) = w63x at *
                generalize w53x.heap.size = b63 at *
                refine hK _ _ (HB63_0.out.1) ?_
                clear hK K
                simp only [List.setIfInBounds_toArray, List.set_cons_zero, List.set_cons_succ]
                refine held_step (i := 2) rfl (by kernel_rfl) ?_ (fun K hK => ?_)
                · rfl
                go_simp
                have HT64 := Lib.hid (HT63.out.new ((Below.refl _ w63x).alloc (Nat.le_refl _) (.cells #[.int .i64 ((st.length : Nat) : Int)] 3)))
                have HB64_0 := Lib.hid (HB63_0.out.new ((Below.refl _ w63x).alloc (Nat.le_refl _) (.cells #[.int .i64 ((st.length : Nat) : Int)] 3)))
                have HB64_3 := Lib.hid (HB63_3.out.new ((Below.refl _ w63x).alloc (Nat.le_refl _) (.cells #[.int .i64 ((st.length : Nat) : Int)] 3)))
                have HB64_2 := Lib.hid (HB63_2.out.new ((Below.refl _ w63x).alloc (Nat.le_refl _) (.cells #[.int .i64 ((st.length : Nat) : Int)] 3)))
                have HB64_1 := Lib.hid (Free.made HT63.out.colr (.cells #[.int .i64 ((st.length : Nat) : Int)] 3))
                generalize w63x.alloc (.cells #[.int .i64 ((st.length : Nat) : Int)] 3) = w64x at *
                generalize w63x.heap.size = b64 at *
                refine hK _ _ (HB64_0.out.1) ?_
                clear hK K
                simp only [List.setIfInBounds_toArray, List.set_cons_zero, List.set_cons_succ]
                refine held_step (i := 3) rfl (by kernel_rfl) ?_ (fun K hK => ?_)
                · rfl
                refine op_append_at (Sh := intS) 66 rfl (.tmp 63) (.tmp 65) 44 rfl Tryd.underlying44 info_int rfl u9 ds.length (offs ds) rfl HT64.out.o b64 1 ((st.length : Nat) : Int) rfl HB64_1.out.1 hds.1 hds.2.1 ?_
                intro v65 w65x hr65 hk65
                have HT65 := Lib.hid (HT64.out.onO hr65 hk65)
                have HB65_0 := Lib.hid (HB64_0.out.other hk65 (by decide) 3)
                have HB65_3 := Lib.hid (HB64_3.out.other hk65 (by decide) 3)
                have HB65_2 := Lib.hid (HB64_2.out.other hk65 (by decide) 3)
                clear hr65 hk65
                generalize paint col6 w64x w65x 3 = col65 at *
                refine hK _ _ (HB65_0.out.1) ?_
                clear hK K
                simp only [Act.put, List.setIfInBounds_toArray, List.set_cons_zero, List.set_cons_succ]
                refine held_step (i := 7) rfl (by kernel_rfl) ?_ (fun K hK => ?_)
                · rfl
                refine op_append_at (Sh := intS) 70 rfl (.tmp 67) (.tmp 69) 44 rfl Tryd.underlying44 info_int rfl u10 ds.length (lens ds) rfl HT65.out.n b63 1 ((Rc.len r.r : Nat) : Int) rfl HB65_2.out.1 hds.1 hds.2.1 ?_
                intro v66 w66x hr66 hk66
                have HT66 := Lib.hid (HT65.out.onN hr66 hk66)
                have HB66_0 := Lib.hid (HB65_0.out.other hk66 (by decide) 4)
                have HB66_3 := Lib.hid (HB65_3.out.other hk66 (by decide) 4)
                clear hr66 hk66
                generalize paint col65 w65x w66x 4 = col66 at *
                refine hK _ _ (HB66_0.out.1) ?_
                clear hK K
                simp only [Act.put, List.setIfInBounds_toArray, List.set_cons_zero, List.set_cons_succ]
                refine held_step (i := 11) rfl (by kernel_rfl) ?_ (fun K hK => ?_)
                · rfl
                refine op_append_at (Sh := recS) 74 rfl (.tmp 71) (.tmp 73) 55 rfl Tryd.underlying55 info_rec rfl u11 ds.length (recs ds) rfl HT66.out.r b53 1 r rfl HB66_3.out.1 hds.1 hds.2.2 ?_
                intro v67 w67x hr67 hk67
                have HT67 := Lib.hid (HT66.out.onR hr67 hk67)
                have HB67_0 := Lib.hid (HB66_0.out.other hk67 (by decide) 6)
                clear hr67 hk67
                generalize paint col66 w66x w67x 6 = col67 at *
                refine hK _ _ (HB67_0.out.1) ?_
                clear hK K
                simp only [Act.put, List.setIfInBounds_toArray, List.set_cons_zero, List.set_cons_succ]
                refine held_take (i := 12) (v := ?_) (d := some 9) rfl rfl (by kernel_rfl) (by kernel_rfl) (by kernel_rfl) (fun _ _ _ h => h) (HB67_0.out.1) ⟨?_, fun w hSw => ?_⟩ ?_
                rotate_left 1
                · rfl
                · (go_simp; all_goals with_reducible rfl)
                simp only [Act.put, List.setIfInBounds_toArray, List.set_cons_zero, List.set_cons_succ]
                refine held_take (i := 13) (v := ?_) (d := some 10) rfl rfl (by kernel_rfl) (by kernel_rfl) (by kernel_rfl) (fun _ _ _ h => h) (HB67_0.out.1) ⟨?_, fun w hSw => ?_⟩ ?_
                rotate_left 1
                · rfl
                · (go_simp; all_goals with_reducible rfl)
                simp only [Act.put, List.setIfInBounds_toArray, List.set_cons_zero, List.set_cons_succ]
                refine held_take (i := 14) (v := ?_) (d := some 11) rfl rfl (by kernel_rfl) (by kernel_rfl) (by kernel_rfl) (fun _ _ _ h => h) (HB67_0.out.1) ⟨?_, fun w hSw => ?_⟩ ?_
                rotate_left 1
                · rfl
                · (go_simp; all_goals with_reducible rfl)
                simp only [Act.put, List.setIfInBounds_toArray, List.set_cons_zero, List.set_cons_succ]
                refine wpAnyH_done (by kernel_rfl) ?_ _
                (try go_wp2_with fail)
                go_meet
                exact ⟨_, HE.out _ _ _ _ _ HT67.out⟩
          case rest =>
            obtain ⟨col7, HST7⟩ := hcut
            generalize wc = w7 at *
            clear HE HST6 HBX6
            rcases take_ways i n2 l2 with ⟨f0, f2, f2'⟩ | ⟨hin2, f2, f4 | f4⟩
            · go_wp2_with fail
              go_roundw
              case rel => exact ⟨i + 1, st', (ds ++ [(st.length, r)]), col7, by go_num, by omega, (by rw [hds2]; omega), HST7.out, HFIT6.out, HALL6.out⟩
              case measure => simp [Go.RowKit.intOf]; omega
            · obtain rfl := hA2 hin2
              have c0 := bools_at (hb2.out.below HST7.out.up (Nat.le_refl _)) i (by rw [hl2.out]; exact hin2)
              rw [f4] at c0
              clear f4
              go_wp2_with fail
              go_roundw
              case rel => exact ⟨i + 1, st', (ds ++ [(st.length, r)]), col7, by go_num, by omega, (by rw [hds2]; omega), HST7.out, HFIT6.out, HALL6.out⟩
              case measure => simp [Go.RowKit.intOf]; omega
            · obtain rfl := hA2 hin2
              have c0 := bools_at (hb2.out.below HST7.out.up (Nat.le_refl _)) i (by rw [hl2.out]; exact hin2)
              rw [f4] at c0
              clear f4
              go_wp2_with fail
              refine (pkpad_any (Lib.hid HST7.out.p) HFIT6.out.short).mono ?_
              rintro e w8 ⟨rfl, hp8, hk8⟩
              have HST8 := Lib.hid (HST7.out.onP hp8 hk8)
              have HALL8 : Hid (AllIs w b (Pk.pad st') ((ds ++ [(st.length, r)]))) := HALL6.out.more _
              clear hp8 hk8 c0
              go_wp2
              go_roundw
              case rel => exact ⟨i + 1, Pk.pad st', (ds ++ [(st.length, r)]), _, by go_num, by omega, (by rw [hds2]; omega), HST8.out, HFIT6.out.pad, HALL8.out⟩
              case measure => simp [Go.RowKit.intOf]; omega
        · rw [Pk.put_no herr] at HST6 HFIT6
          rw [if_neg herr, if_neg herr]
          generalize Pk.err ⟨1, b, c, 4⟩ st r.r = er at *
          have f7 : (er == 0) = false := by simpa using herr
          have f8 : decide (er = 0) = false := by simpa using herr
          clear HBX6
          rcases take_ways i n2 l2 with ⟨f0, f2, f2'⟩ | ⟨hin2, f2, f4 | f4⟩
          · go_wp2_with fail
            go_roundw
            case rel => exact ⟨i + 1, st, ds, col6, by go_num, by omega, (by omega), HST6.out, HFIT6.out, HALL.out⟩
            case measure => simp [Go.RowKit.intOf]; omega
          · obtain rfl := hA2 hin2
            have c0 := bools_at (hb2.out.below HST6.out.up (Nat.le_refl _)) i (by rw [hl2.out]; exact hin2)
            rw [f4] at c0
            clear f4
            go_wp2_with fail
            go_roundw
            case rel => exact ⟨i + 1, st, ds, col6, by go_num, by omega, (by omega), HST6.out, HFIT6.out, HALL.out⟩
            case measure => simp [Go.RowKit.intOf]; omega
          · obtain rfl := hA2 hin2
            have c0 := bools_at (hb2.out.below HST6.out.up (Nat.le_refl _)) i (by rw [hl2.out]; exact hin2)
            rw [f4] at c0
            clear f4
            go_wp2_with fail
            refine (pkpad_any (Lib.hid HST6.out.p) HFIT6.out.short).mono ?_
            rintro e w8 ⟨rfl, hp8, hk8⟩
            have HST8 := Lib.hid (HST6.out.onP hp8 hk8)
            have HALL8 : Hid (AllIs w b (Pk.pad st) (ds)) := HALL.out.more _
            clear hp8 hk8 c0
            go_wp2
            go_roundw
            case rel => exact ⟨i + 1, Pk.pad st, ds, _, by go_num, by omega, (by omega), HST8.out, HFIT6.out.pad, HALL8.out⟩
            case measure => simp [Go.RowKit.intOf]; omega
end Go.Proofs.YtjmhnbohojdodaaDoor
