/-
  The walks of Put, the program's and the reference's.
-/
import Derived.Test.YtnadbokhcmbcaaaDoorPkWords
import Derived.Test.YtnadbokhcmbcaaaDoorRecEncodeLaw
import Derived.Test.YtnadbokhcmbcaaaDoorRecRefDecode
import Derived.OwnWalk
import Derived.Test.YtnadbokhcmbcaaaDoorGate
set_option maxRecDepth 100000
namespace Go.Proofs.YtnadbokhcmbcaaaDoor
open Go.RowKit
/-- What a record's value stands for: where its key and its value lie. -/
def RecIn (w : World) (B : Nat) (A1 A2 : Option Addr) (n1 c1 n2 c2 : Nat) (key val : List Nat) : Prop := (SlIs A1 n1 c1 ∧ key.length = n1 ∧ Bs w B A1 key) ∧ (SlIs A2 n2 c2 ∧ val.length = n2 ∧ Bs w B A2 val)
theorem RecIn.below {w w' : World} {B C : Nat} {A1 A2 : Option Addr} {n1 c1 n2 c2 : Nat} {key val : List Nat} (h : RecIn w B A1 A2 n1 c1 n2 c2 key val) (hb : Below C w w') (hB : B ≤ C) : RecIn w' B A1 A2 n1 c1 n2 c2 key val :=
  ⟨⟨h.1.1, h.1.2.1, h.1.2.2.below hb hB⟩, ⟨h.2.1, h.2.2.1, h.2.2.2.below hb hB⟩⟩
/-- What Put leaves. -/
def PkPut (T : TypeId) (w : World) (S : Nat → Prop) (g : Nat) (a b c d slot seq : Int) (st : List Nat) (k : Nat) (r : Rc.Rec) (e : Ending) (w' : World) : Prop :=
  e = .returned (.tuple #[.int .i64 (if Pk.err ⟨a, b, c, d⟩ st r = 0 then (st.length : Int) else 0), .int .i64 (if Pk.err ⟨a, b, c, d⟩ st r = 0 then (Rc.len r : Int) else 0), .int .i64 (Pk.err ⟨a, b, c, d⟩ st r)]) ∧
    PkIs T w' (Grow S w) g a b c d slot seq (Pk.put ⟨a, b, c, d⟩ seq st r) k ∧ Kept S w w'
/-- Nothing was put. -/
theorem pkput_no {T : TypeId} {w w' : World} {S : Nat → Prop} {g : Nat} {a b c d slot seq : Int} {st : List Nat} {k : Nat} {r : Rc.Rec} {x : Int} (hp : PkIs T w S g a b c d slot seq st k) (hb : Below w.heap.size w w') (he : Pk.err ⟨a, b, c, d⟩ st r = x) (hx : x ≠ 0) :
    PkPut T w S g a b c d slot seq st k r (.returned (.tuple #[.int .i64 0, .int .i64 0, .int .i64 x])) w' := by
  subst he
  unfold PkPut
  rw [if_neg hx, if_neg hx, Pk.put_no hx]
  exact ⟨rfl, (hp.new hb).mono fun k _ h => .inl h, Kept.of_new hb⟩
theorem own_keeps {w1 w2 : World} {g q cp : Nat} {A : Option Addr} {o : Obj} (h1 : w1.heap[g]? = some o) (hne : ∀ ad, A = some ad → ad.block ≠ g) (hk : Kept (Own (.slice A q cp)) w1 w2) : w2.heap[g]? = some o :=
  (hk.block g (Array.getElem?_eq_some_iff.1 h1).1 fun e => by
    cases A with
    | none => cases e
    | some ad => exact hne ad rfl (by unfold Own at e; injection e)).trans h1
/-- The stream has grown, and lies in the struct. -/
theorem pk_grown {T : TypeId} {w w1 w2 : World} {S : Nat → Prop} {g : Nat} {a b c d slot seq : Int} {st st' : List Nat} {k q n' cp cp' : Nat} {A A' : Option Addr}
    (h1 : w1.heap[g]? = some (.cells #[.int .i64 a, .int .i64 b, .int .i64 c, .int .i64 d, .int .i64 slot, .int .i64 seq, .slice A q cp, .int .i64 (k : Int)] T (0, 0))) (hg : S g) (hr : SRow S 5 1 w1 (.slice A q cp) q (vals st)) (hne : ∀ ad, A = some ad → ad.block ≠ g)
    (hr' : SRow (Grow (Own (.slice A q cp)) w1) 5 1 w2 (.slice A' n' cp') n' (vals st')) (hk : Kept (Own (.slice A q cp)) w1 w2) (hb : Below w.heap.size w w1) :
    PkIs T (w2.setCell ⟨g, 6, none⟩ (.slice A' n' cp')) (Grow S w) g a b c d slot seq st' k ∧ Kept S w (w2.setCell ⟨g, 6, none⟩ (.slice A' n' cp')) := by
  have hn : st'.length = n' := by have := hr'.1.1; rw [vals_length] at this; omega
  subst hn
  have hlt := (Array.getElem?_eq_some_iff.1 h1).1
  have hno : ¬ (Value.slice A q cp).ownBlock = some g := fun e => by
    cases A with
    | none => cases e
    | some ad => exact hne ad rfl (by injection e)
  have h2 := (hk.block g hlt hno).trans h1
  have hne' : ∀ ad, A' = some ad → ad.block ≠ g := fun ad e => by
    subst e
    rcases hr'.2 ad.block rfl with h | h
    · exact fun e => hno (e ▸ h)
    · omega
  have K1 : Kept (fun k => k = g) w2 (w2.setCell ⟨g, 6, none⟩ (.slice A' st'.length cp')) := Kept.setCell (S := fun k => k = g) w2 ⟨g, 6, none⟩ _ rfl
  refine ⟨⟨A', cp', ?_, .inl hg, ?_, hne'⟩, ?_⟩
  · simp [World.setCell, Array.getElem?_modify, h2]
  · refine ⟨ownsRow_block hr'.1 fun k e => K1.block k (hr'.lt e) fun e' => ?_, fun k e => ?_⟩
    · cases A' with
      | none => cases e
      | some ad => exact hne' ad rfl (by injection e with e; rw [e, e'])
    · rcases hr'.2 k e with h | h
      · exact .inl (hr.2 k h)
      · have := hb.size; exact .inr (by omega)
  · exact (Kept.of_new hb).trans' ((hk.mono fun k _ h => hr.2 k h).trans (K1.mono fun k _ h => h ▸ hg)) fun i h _ => h
section
variable {w : World} {S : Nat → Prop} {g : Nat} {a b c d slot seq : Int} {st : List Nat} {k : Nat}
set_option maxHeartbeats 2000000 in
theorem pkput_any (kd x : Int) (key val : List Nat) (A1 A2 : Option Addr) (B n1 c1 n2 c2 : Nat) (hB : B ≤ w.heap.size) (hi : Hid (RecIn w B A1 A2 n1 c1 n2 c2 key val)) (hp : Hid (PkIs 48 w S g a b c d slot seq st k)) (hf : Pk.Fit ⟨a, b, c, d⟩ slot seq st k) (ht : Hid (TabW w)) (hz : 0 < w.heap.size) :
    Calls Tryd.prog 8 #[.pointer (some ⟨g, 0, none⟩), .agg #[.int .i64 kd, .slice A1 n1 c1, .slice A2 n2 c2, .int .i64 x]] w (PkPut 48 w S g a b c d slot seq st k ⟨kd, key, val, x⟩) := by
  have hlen : key.length = n1 ∧ val.length = n2 := ⟨hi.out.1.2.1, hi.out.2.2.1⟩
  have hplace := Pk.place_ok hf
  have hsq := hf.ok.2.2
  have HF := Lib.hid hf
  have h120 := hf.short
  have hC := (Pk.cap_eq hf.ok.1.1).2.2.1
  obtain ⟨A, cp, hh, hg, hr, hne⟩ := hp.out
  have HB0 : Hid (Below w.heap.size w (w.alloc (.cells #[.int .i64 kd, .slice A1 n1 c1, .slice A2 n2 c2, .int .i64 x] 38))) := (Below.refl _ w).alloc (Nat.le_refl _) _
  have HS0 : Hid (Sd w g _ (w.alloc (.cells #[.int .i64 kd, .slice A1 n1 c1, .slice A2 n2 c2, .int .i64 x] 38))) := ⟨(HB0.out.block g (Array.getElem?_eq_some_iff.1 hh).1).trans hh, HB0.out⟩
  have HT0 : Hid (TabW (w.alloc (.cells #[.int .i64 kd, .slice A1 n1 c1, .slice A2 n2 c2, .int .i64 x] 38))) := ht.out.below HB0.out hz
  have HI0 : Hid (RecIn (w.alloc (.cells #[.int .i64 kd, .slice A1 n1 c1, .slice A2 n2 c2, .int .i64 x] 38)) B A1 A2 n1 c1 n2 c2 key val) := hi.out.below HB0.out hB
  have HX0 : Hid (Sd w w.heap.size _ (w.alloc (.cells #[.int .i64 kd, .slice A1 n1 c1, .slice A2 n2 c2, .int .i64 x] 38))) := sd_new _ _ _
  have HZ0 : Hid (0 < (w.alloc (.cells #[.int .i64 kd, .slice A1 n1 c1, .slice A2 n2 c2, .int .i64 x] 38)).heap.size) := Nat.lt_of_lt_of_le hz HB0.out.size
  have HZB : Hid (B ≤ (w.alloc (.cells #[.int .i64 kd, .slice A1 n1 c1, .slice A2 n2 c2, .int .i64 x] 38)).heap.size) := Nat.le_trans hB HB0.out.size
  obtain ⟨z0, z1, z2, z3, z4, z5, z6, z7⟩ := pk8 hh
  have HG := Lib.hid (And.intro hg (And.intro hr hne))
  clear hh hg hr hne
  by_cases hck : Rc.check b ⟨kd, key, val, x⟩ = 0
  · have CE : Hid (∀ w0, TabW w0 → RecIn w0 B A1 A2 n1 c1 n2 c2 key val → B ≤ w0.heap.size → 0 < w0.heap.size → ∀ W, W.heap = w0.heap → W.os = w0.os → W.tape = w0.tape → W.output = w0.output → Calls Tryd.prog 17 #[.int .i64 b, .int .i64 seq, .int .i64 (st.length : Int), .agg #[.int .i64 kd, .slice A1 n1 c1, .slice A2 n2 c2, .int .i64 x]] W (Encoded W (Rc.enc b seq (st.length : Int) ⟨kd, key, val, x⟩))) := fun w0 h1 h2 h3 h4 W e1 _ _ _ =>
      encode_ok b seq (st.length : Int) kd x key val A1 B n1 c1 A2 n2 c2 W hck hplace (by rw [e1]; exact h3) (by omega) ⟨h2.1.1, h2.1.2.1, fun k hk => (fun h => ⟨h.1, h.2.choose, h.2.choose_spec.1, h.2.choose_spec.2.1, (World.cell?_of_block (by rw [e1])).trans h.2.choose_spec.2.2⟩) (h2.1.2.2 k hk)⟩ ⟨h2.2.1, h2.2.2.1, fun k hk => (fun h => ⟨h.1, h.2.choose, h.2.choose_spec.1, h.2.choose_spec.2.1, (World.cell?_of_block (by rw [e1])).trans h.2.choose_spec.2.2⟩) (h2.2.2.2 k hk)⟩ (fun k hk => (World.cell?_of_block (by rw [e1])).trans (h1 k hk)) (by rw [e1]; exact h4)
    have HEL : Hid ((Rc.enc b seq (st.length : Int) ⟨kd, key, val, x⟩).length = 16 + n1 + n2) := by
      show _ = _
      rw [Rc.enc_length]; unfold Rc.len; simp only; rw [hlen.1, hlen.2]
    have HELT : Hid (∀ y ∈ Rc.enc b seq (st.length : Int) ⟨kd, key, val, x⟩, y < 256) := Rc.enc_lt _ _ _ _ hi.out.1.2.2.lt hi.out.2.2.2.lt
    have HLEN : Hid (Rc.len ⟨kd, key, val, x⟩ = 16 + n1 + n2) := by show _ = _; unfold Rc.len; simp only; rw [hlen.1, hlen.2]
    have hsmall : n1 ≤ 255 ∧ n2 ≤ 65536 := by
      have := Rc.chk_ok hck
      simp only at this
      omega
    generalize hen : Rc.enc b seq (st.length : Int) ⟨kd, key, val, x⟩ = en at CE HEL HELT
    have HEN := Lib.hid hen; clear hen
    by_cases hfit : Pk.cap ⟨a, b, c, d⟩ < st.length + (16 + n1 + n2)
    · have HERR : Hid (Pk.err ⟨a, b, c, d⟩ st ⟨kd, key, val, x⟩ = 8) := by
        show _ = _
        unfold Pk.err
        rw [if_neg (Decidable.not_not.2 hck), HLEN.out, if_pos hfit]
      obtain ⟨m, hm⟩ : ∃ m, m = 16 + n1 + n2 := ⟨_, rfl⟩
      have HMV : Hid (Rc.len ⟨kd, key, val, x⟩ = m) := by show _ = _; rw [HLEN.out, hm]
      have HM : Hid (en.length = m) := by show _ = _; rw [HEL.out, hm]
      have hms : m ≤ 65807 := by omega
      have m1 : decide ((Pk.cap ⟨a, b, c, d⟩ : Int) - (st.length : Int) < (m : Int)) = true := by simp only [decide_eq_true_eq]; omega
      have CR : Hid (∀ W, Below w.heap.size w W → Calls Tryd.prog 18 #[.pointer (some ⟨g, 0, none⟩)] W fun e w' => e = .returned (.int .i64 ((Pk.cap ⟨a, b, c, d⟩ : Int) - (st.length : Int))) ∧ Below W.heap.size W w') := fun W hb => pkroom_any (Lib.hid (hp.out.new hb)) HF.out
      clear hck hlen hplace hfit hf hm HEL HLEN
      generalize Pk.cap ⟨a, b, c, d⟩ = C at *
      generalize hq : st.length = q at *
      have HQ := Lib.hid hq; clear hq
      go_enter Tryd.func8, Tryd.ntmps8
      go_upto_region 1 with fail
      generalize w.alloc (.cells #[.int .i64 kd, .slice A1 n1 c1, .slice A2 n2 c2, .int .i64 x] 38) = w0 at *
      clear z0 z1 z2 z3 z4 z5 z6 z7
      obtain ⟨z0, z1, z2, z3, z4, z5, z6, z7⟩ := pks8 HS0.out
      obtain ⟨y0, y1, y2, y3⟩ := four_cells HX0.out.1
      have CE0 := Lib.hid (CE.out w0 HT0.out HI0.out HZB.out HZ0.out)
      go_wp2_with fail
      go_region_held3 (fun W => (W.cell? ⟨g, 0, none⟩ = some (.int .i64 a) ∧ W.cell? ⟨g, 1, none⟩ = some (.int .i64 b) ∧ W.cell? ⟨g, 2, none⟩ = some (.int .i64 c) ∧ W.cell? ⟨g, 3, none⟩ = some (.int .i64 d) ∧ W.cell? ⟨g, 4, none⟩ = some (.int .i64 slot) ∧ W.cell? ⟨g, 5, none⟩ = some (.int .i64 seq) ∧ W.cell? ⟨g, 6, none⟩ = some (.slice A q cp) ∧ W.cell? ⟨g, 7, none⟩ = some (.int .i64 (k : Int))) ∧ W.cell? ⟨w.heap.size, 0, none⟩ = some (.int .i64 kd) ∧ W.cell? ⟨w.heap.size, 1, none⟩ = some (.slice A1 n1 c1) ∧ W.cell? ⟨w.heap.size, 2, none⟩ = some (.slice A2 n2 c2) ∧ W.cell? ⟨w.heap.size, 3, none⟩ = some (.int .i64 x))
        (first
          | go_keep
          | (revert HS1 HX1; intro HS1 HX1; with_reducible exact ⟨pks8 HS1.out, sd_cells4 HX1.out⟩))
        (first
          | (go_at_call 17; refine (CE0.out _ (by rfl) (by rfl) (by rfl) (by rfl)).mono ?_; rintro e w1 ⟨v1, rfl, hown, hb1⟩; obtain ⟨A3, c3, rfl, hbs3, hl3, hn3, hm3, ho3⟩ := own_bytes hown HELT.out; have HBS := Lib.hid hbs3; have HSL : Hid (SlIs A3 en.length c3) := sl_own hn3 hm3 ho3; have HS1 := Lib.hid (HS0.out.next hb1 (by rfl) (by rfl) (by rfl) (by rfl)); have HX1 := Lib.hid (HX0.out.next hb1 (by rfl) (by rfl) (by rfl) (by rfl)); clear hb1 hbs3 hl3 hn3 hm3 ho3 hown))
      all_goals
        rw [HM.out] at HSL
        rw [HM.out]
        go_wp2_with fail
        refine (CR.out _ HS1.out.2).mono ?_
        rintro e w2 ⟨rfl, hb2⟩
        have HS2 := Lib.hid (HS1.out.next hb2 (by rfl) (by rfl) (by rfl) (by rfl))
        clear hb2
        go_wp2
        go_ret3
        exact pkput_no hp.out HS2.out.2 HERR.out (by decide)
    · have HERR : Hid (Pk.err ⟨a, b, c, d⟩ st ⟨kd, key, val, x⟩ = 0) := by
        show _ = _
        unfold Pk.err
        rw [if_neg (Decidable.not_not.2 hck), HLEN.out, if_neg hfit]
      have HPUT : Hid (Pk.put ⟨a, b, c, d⟩ seq st ⟨kd, key, val, x⟩ = st ++ en) := by
        show _ = _
        rw [Pk.put_ok HERR.out, HEN.out]
      obtain ⟨m, hm⟩ : ∃ m, m = 16 + n1 + n2 := ⟨_, rfl⟩
      have HMV : Hid (Rc.len ⟨kd, key, val, x⟩ = m) := by show _ = _; rw [HLEN.out, hm]
      have HM : Hid (en.length = m) := by show _ = _; rw [HEL.out, hm]
      have hms : m ≤ 65807 := by omega
      have m1 : decide ((Pk.cap ⟨a, b, c, d⟩ : Int) - (st.length : Int) < (m : Int)) = false := by simp only [decide_eq_false_iff_not]; omega
      have CR : Hid (∀ W, Below w.heap.size w W → Calls Tryd.prog 18 #[.pointer (some ⟨g, 0, none⟩)] W fun e w' => e = .returned (.int .i64 ((Pk.cap ⟨a, b, c, d⟩ : Int) - (st.length : Int))) ∧ Below W.heap.size W w') := fun W hb => pkroom_any (Lib.hid (hp.out.new hb)) HF.out
      clear hck hlen hplace hfit hf hm HEL HLEN
      generalize Pk.cap ⟨a, b, c, d⟩ = C at *
      generalize hq : st.length = q at *
      have HQ := Lib.hid hq; clear hq
      go_enter Tryd.func8, Tryd.ntmps8
      go_upto_region 1 with fail
      generalize w.alloc (.cells #[.int .i64 kd, .slice A1 n1 c1, .slice A2 n2 c2, .int .i64 x] 38) = w0 at *
      clear z0 z1 z2 z3 z4 z5 z6 z7
      obtain ⟨z0, z1, z2, z3, z4, z5, z6, z7⟩ := pks8 HS0.out
      obtain ⟨y0, y1, y2, y3⟩ := four_cells HX0.out.1
      have CE0 := Lib.hid (CE.out w0 HT0.out HI0.out HZB.out HZ0.out)
      go_wp2_with fail
      go_region_held3 (fun W => (W.cell? ⟨g, 0, none⟩ = some (.int .i64 a) ∧ W.cell? ⟨g, 1, none⟩ = some (.int .i64 b) ∧ W.cell? ⟨g, 2, none⟩ = some (.int .i64 c) ∧ W.cell? ⟨g, 3, none⟩ = some (.int .i64 d) ∧ W.cell? ⟨g, 4, none⟩ = some (.int .i64 slot) ∧ W.cell? ⟨g, 5, none⟩ = some (.int .i64 seq) ∧ W.cell? ⟨g, 6, none⟩ = some (.slice A q cp) ∧ W.cell? ⟨g, 7, none⟩ = some (.int .i64 (k : Int))) ∧ W.cell? ⟨w.heap.size, 0, none⟩ = some (.int .i64 kd) ∧ W.cell? ⟨w.heap.size, 1, none⟩ = some (.slice A1 n1 c1) ∧ W.cell? ⟨w.heap.size, 2, none⟩ = some (.slice A2 n2 c2) ∧ W.cell? ⟨w.heap.size, 3, none⟩ = some (.int .i64 x))
        (first
          | go_keep
          | (revert HS1 HX1; intro HS1 HX1; with_reducible exact ⟨pks8 HS1.out, sd_cells4 HX1.out⟩))
        (first
          | (go_at_call 17; refine (CE0.out _ (by rfl) (by rfl) (by rfl) (by rfl)).mono ?_; rintro e w1 ⟨v1, rfl, hown, hb1⟩; obtain ⟨A3, c3, rfl, hbs3, hl3, hn3, hm3, ho3⟩ := own_bytes hown HELT.out; have HBS := Lib.hid hbs3; have HSL : Hid (SlIs A3 en.length c3) := sl_own hn3 hm3 ho3; have HS1 := Lib.hid (HS0.out.next hb1 (by rfl) (by rfl) (by rfl) (by rfl)); have HX1 := Lib.hid (HX0.out.next hb1 (by rfl) (by rfl) (by rfl) (by rfl)); clear hb1 hbs3 hl3 hn3 hm3 ho3 hown))
      all_goals
        rw [HM.out] at HSL
        rw [HM.out]
        go_wp2_with fail
        refine (CR.out _ HS1.out.2).mono ?_
        rintro e w2 ⟨rfl, hb2⟩
        have HS2 := Lib.hid (HS1.out.next hb2 (by rfl) (by rfl) (by rfl) (by rfl))
        have HBS2 := Lib.hid (HBS.out.below hb2 (Nat.le_refl _))
        clear hb2
        clear z0 z1 z2 z3 z4 z5 z6 z7
        obtain ⟨z0, z1, z2, z3, z4, z5, z6, z7⟩ := pks8 HS2.out
        have HR2 := Lib.hid (((HG.out.2.1).new HS2.out.2).self)
        go_wp2_with (at_builtin; refine append_sbytes rfl (.tmp 42) (.tmp 43) rfl _ q st rfl HR2.out A3 w1.heap.size m c3 en rfl HSL.out HM.out HBS2.out (by omega) ?_; intro v4 w4 hr4 hk4; obtain ⟨A4, c4, rfl, hs4⟩ := hr4.open_; have HH4 := Lib.hid (own_keeps HS2.out.1 HG.out.2.2 hk4); have HR4 := Lib.hid hr4; have HK4 := Lib.hid hk4; clear hr4 hk4 hs4; clear z0 z1 z2 z3 z4 z5 z6 z7; obtain ⟨-, -, -, -, -, -, z6, -⟩ := pk8 HH4.out; obtain ⟨f6, -⟩ := pk8f HH4.out)
        have HFIN := Lib.hid (pk_grown HS2.out.1 HG.out.1 (HG.out.2.1.new HS2.out.2) HG.out.2.2 HR4.out HK4.out HS2.out.2)
        clear z6 f6
        generalize w4.setCell ⟨g, 6, none⟩ (.slice A4 (q + m) c4) = w5 at *
        go_wp2
        go_ret3
        unfold PkPut
        rw [HERR.out, if_pos rfl, if_pos rfl, HMV.out, HPUT.out, HQ.out]
        exact ⟨rfl, HFIN.out⟩
  · have HERR : Hid (Pk.err ⟨a, b, c, d⟩ st ⟨kd, key, val, x⟩ = Rc.check b ⟨kd, key, val, x⟩) := by
      show _ = _
      unfold Pk.err
      rw [if_pos hck]
    have hce : Rc.check b ⟨kd, key, val, x⟩ = Rc.chk b kd n1 n2 x := by unfold Rc.check; simp only; rw [hlen.1, hlen.2]
    rw [hce] at HERR hck
    have CE : Hid (∀ W, Calls Tryd.prog 17 #[.int .i64 b, .int .i64 seq, .int .i64 (st.length : Int), .agg #[.int .i64 kd, .slice A1 n1 c1, .slice A2 n2 c2, .int .i64 x]] W fun e w' => e = .returned (.tuple #[.slice none 0 0, .int .i64 (Rc.chk b kd n1 n2 x)]) ∧ Below W.heap.size W w') := fun W => by
      have := encode_bad b seq (st.length : Int) kd x A1 n1 c1 A2 n2 c2 W (.inl hck)
      rwa [if_pos hck] at this
    have HNE := Lib.hid hck
    have f1 : (Rc.chk b kd n1 n2 x != 0) = true := by rw [bne_iff_ne]; exact hck
    clear hck hce hlen hplace
    generalize Rc.chk b kd n1 n2 x = y at *
    generalize hq : st.length = q at *
    have HQ := Lib.hid hq; clear hq
    go_enter Tryd.func8, Tryd.ntmps8
    go_upto_region 1 with fail
    generalize w.alloc (.cells #[.int .i64 kd, .slice A1 n1 c1, .slice A2 n2 c2, .int .i64 x] 38) = w0 at *
    clear z0 z1 z2 z3 z4 z5 z6 z7
    obtain ⟨z0, z1, z2, z3, z4, z5, z6, z7⟩ := pks8 HS0.out
    obtain ⟨y0, y1, y2, y3⟩ := four_cells HX0.out.1
    go_wp2_with fail
    go_region_held3 (fun W => (W.cell? ⟨g, 0, none⟩ = some (.int .i64 a) ∧ W.cell? ⟨g, 1, none⟩ = some (.int .i64 b) ∧ W.cell? ⟨g, 2, none⟩ = some (.int .i64 c) ∧ W.cell? ⟨g, 3, none⟩ = some (.int .i64 d) ∧ W.cell? ⟨g, 4, none⟩ = some (.int .i64 slot) ∧ W.cell? ⟨g, 5, none⟩ = some (.int .i64 seq) ∧ W.cell? ⟨g, 6, none⟩ = some (.slice A q cp) ∧ W.cell? ⟨g, 7, none⟩ = some (.int .i64 (k : Int))) ∧ W.cell? ⟨w.heap.size, 0, none⟩ = some (.int .i64 kd) ∧ W.cell? ⟨w.heap.size, 1, none⟩ = some (.slice A1 n1 c1) ∧ W.cell? ⟨w.heap.size, 2, none⟩ = some (.slice A2 n2 c2) ∧ W.cell? ⟨w.heap.size, 3, none⟩ = some (.int .i64 x))
      (first
        | go_keep
        | (revert HS1 HX1; intro HS1 HX1; with_reducible exact ⟨pks8 HS1.out, sd_cells4 HX1.out⟩))
      (first
        | (go_at_call 17; refine (CE.out _).mono ?_; rintro e w1 ⟨rfl, hb1⟩; have HS1 := Lib.hid (HS0.out.next hb1 (by rfl) (by rfl) (by rfl) (by rfl)); have HX1 := Lib.hid (HX0.out.next hb1 (by rfl) (by rfl) (by rfl) (by rfl)); clear hb1))
    all_goals
      go_wp2
      go_ret3
      exact pkput_no hp.out HS1.out.2 HERR.out HNE.out
theorem row_not {S : Nat → Prop} {t : TypeId} {z n q cp B : Nat} {w : World} {A : Option Addr} {xs : List Value} (h : SRow S t z w (.slice A q cp) n xs) (hB : w.heap.size ≤ B) : ∀ ad, A = some ad → ad.block ≠ B := fun ad e h2 => by
  subst e
  have := h.lt (k := ad.block) rfl
  omega
theorem put_here {w5 : World} {g b : Nat} {a0 a1 a2 a3 a4 a5 a6 a7 y0 y1 y2 y3 : Value} {t t' : TypeId} (h : w5.heap[g]? = some (.cells #[a0, a1, a2, a3, a4, a5, a6, a7] t (0, 0))) (k : w5.heap[b]? = some (.cells #[y0, y1, y2, y3] t' (0, 0))) :
    (w5.cell? ⟨g, 1, none⟩ = some a1 ∧ w5.cell? ⟨g, 5, none⟩ = some a5) ∧ w5.cell? ⟨b, 0, none⟩ = some y0 ∧ w5.cell? ⟨b, 1, none⟩ = some y1 ∧ w5.cell? ⟨b, 2, none⟩ = some y2 ∧ w5.cell? ⟨b, 3, none⟩ = some y3 :=
  ⟨⟨(pk8 h).2.1, (pk8 h).2.2.2.2.2.1⟩, four_cells k⟩
theorem put_sd {w W : World} {g b : Nat} {a0 a1 a2 a3 a4 a5 a6 a7 y0 y1 y2 y3 : Value} {t t' : TypeId} (h : Sd w g (.cells #[a0, a1, a2, a3, a4, a5, a6, a7] t (0, 0)) W) (k : Sd w b (.cells #[y0, y1, y2, y3] t' (0, 0)) W) :
    (W.cell? ⟨g, 1, none⟩ = some a1 ∧ W.cell? ⟨g, 5, none⟩ = some a5) ∧ W.cell? ⟨b, 0, none⟩ = some y0 ∧ W.cell? ⟨b, 1, none⟩ = some y1 ∧ W.cell? ⟨b, 2, none⟩ = some y2 ∧ W.cell? ⟨b, 3, none⟩ = some y3 := put_here h.1 k.1
end
end Go.Proofs.YtnadbokhcmbcaaaDoor
